package value

import (
	"math"
	"slices"

	"colander/api"
	"colander/number"
	"colander/runes"
)

// Operate does what an operator does with two values.
func Operate(op string, a api.Value, b api.Value) (api.Value, api.Err) {
	out, err := operate(op, a, b)
	return copyOf(out), err
}

// operate and what it calls make outcomes that may share memory with what was handed in.
func operate(op string, a, b api.Value) (api.Value, api.Err) {
	switch op {
	case "+":
		return add(a, b)
	case "-":
		return subtract(a, b)
	case "*":
		return multiply(a, b)
	case "/":
		return divide(a, b)
	case "%":
		return remainder(a, b)
	}
	return failed("unknown operator")
}

func add(a, b api.Value) (api.Value, api.Err) {
	switch {
	case a.Kind == api.Null:
		return b, api.Err{}
	case b.Kind == api.Null:
		return a, api.Err{}
	case both(api.Number, a, b):
		return numberOf(a.Num + b.Num)
	case both(api.String, a, b):
		return unlessLarge(api.Value{Kind: api.String, Str: a.Str + b.Str})
	case both(api.Array, a, b):
		return unlessLarge(api.Value{Kind: api.Array, List: slices.Concat(a.List, b.List)})
	case both(api.Object, a, b):
		return unlessLarge(merge(a, b, func(_, other api.Value) api.Value { return other }))
	}
	return refused(a, b, "cannot be added")
}

func subtract(a, b api.Value) (api.Value, api.Err) {
	switch {
	case both(api.Number, a, b):
		return numberOf(a.Num - b.Num)
	case both(api.Array, a, b):
		return api.Value{Kind: api.Array, List: without(a.List, b.List)}, api.Err{}
	}
	return refused(a, b, "cannot be subtracted")
}

// without answers the values of list that equal none of others.
func without(list, others []api.Value) []api.Value {
	// What has NaN in it equals nothing, and the rest has an order in which it is quickly found.
	others = slices.DeleteFunc(slices.Clone(others), hasNaN)
	slices.SortFunc(others, Compare)
	return slices.DeleteFunc(slices.Clone(list), func(x api.Value) bool {
		_, found := slices.BinarySearchFunc(others, x, Compare)
		return found
	})
}

func hasNaN(v api.Value) bool {
	return v.Kind == api.Number && math.IsNaN(v.Num) || slices.ContainsFunc(v.List, hasNaN)
}

func multiply(a, b api.Value) (api.Value, api.Err) {
	switch {
	case both(api.Number, a, b):
		return numberOf(a.Num * b.Num)
	case a.Kind == api.String && b.Kind == api.Number:
		return repeated(a.Str, b.Num)
	case a.Kind == api.Number && b.Kind == api.String:
		return repeated(b.Str, a.Num)
	case both(api.Object, a, b):
		return unlessLarge(product(a, b))
	}
	return refused(a, b, "cannot be multiplied")
}

func repeated(s string, times float64) (api.Value, api.Err) {
	if math.IsNaN(times) || times <= 0 {
		return api.Value{}, api.Err{}
	}
	text, e := runes.Repeat(s, number.Int(math.Ceil(times)))
	if e != api.OK {
		return tooLarge()
	}
	return api.Value{Kind: api.String, Str: text}, api.Err{}
}

func product(a, b api.Value) api.Value {
	return merge(a, b, func(old, other api.Value) api.Value {
		if both(api.Object, old, other) {
			return product(old, other)
		}
		return other
	})
}

func divide(a, b api.Value) (api.Value, api.Err) {
	switch {
	case both(api.Number, a, b) && b.Num == 0:
		return byZero(a, b)
	case both(api.Number, a, b):
		return numberOf(a.Num / b.Num)
	case both(api.String, a, b):
		return split(a.Str, b.Str)
	}
	return refused(a, b, "cannot be divided")
}

func split(s, by string) (api.Value, api.Err) {
	parts := runes.Split(s, by)
	if len(parts) >= api.MaxNodes { // far more memory is not asked for in vain
		return tooLarge()
	}
	out := api.Value{Kind: api.Array}
	for _, p := range parts {
		out.List = append(out.List, api.Value{Kind: api.String, Str: p})
	}
	return unlessLarge(out)
}

func remainder(a, b api.Value) (api.Value, api.Err) {
	if !both(api.Number, a, b) {
		return refused(a, b, "cannot be divided")
	}
	if math.IsNaN(a.Num) || math.IsNaN(b.Num) {
		return numberOf(math.NaN())
	}
	divisor := whole(b.Num)
	if divisor == 0 {
		return byZero(a, b)
	}
	return numberOf(float64(whole(a.Num) % divisor))
}

// whole answers f without its fraction; the least int is left out, as without its sign it is none.
func whole(f float64) int {
	return max(number.Int(f), -math.MaxInt)
}

func both(kind api.Kind, a, b api.Value) bool {
	return a.Kind == kind && b.Kind == kind
}

func numberOf(f float64) (api.Value, api.Err) {
	return api.Value{Kind: api.Number, Num: f}, api.Err{}
}

func unlessLarge(v api.Value) (api.Value, api.Err) {
	if Large(v) {
		return tooLarge()
	}
	return v, api.Err{}
}

func tooLarge() (api.Value, api.Err) {
	return failed("value is too large")
}

func byZero(a, b api.Value) (api.Value, api.Err) {
	return refused(a, b, "cannot be divided because the divisor is zero")
}

// refused tells what cannot be done with a and b.
func refused(a, b api.Value, what string) (api.Value, api.Err) {
	return failed(told(a) + " and " + told(b) + " " + what)
}

func told(v api.Value) string {
	return Name(v) + " (" + Short(v) + ")"
}

func failed(text string) (api.Value, api.Err) {
	return api.Value{}, api.Err{Is: true, V: api.Value{Kind: api.String, Str: text}}
}
