// Package sample is there for the tests of the other packages alone: it makes values, and holds values against each other.
package sample

import (
	"strings"

	"colander/api"
	"colander/reader"
)

// Num answers a number.
func Num(f float64) api.Value { return api.Value{Kind: api.Number, Num: f} }

// Str answers a string.
func Str(s string) api.Value { return api.Value{Kind: api.String, Str: s} }

// Arr answers an array of values.
func Arr(l ...api.Value) api.Value { return api.Value{Kind: api.Array, List: l} }

// Obj answers an object of keys, parted by blanks (_ is the empty one), and their values.
func Obj(keys string, l ...api.Value) api.Value {
	v := api.Value{Kind: api.Object, List: l}
	for _, k := range strings.Fields(keys) {
		v.Keys = append(v.Keys, strings.Replace(k, "_", "", 1))
	}
	return v
}

// Bool answers true or false.
func Bool(is bool) api.Value {
	if is {
		return api.Value{Kind: api.True}
	}
	return api.Value{Kind: api.False}
}

// All answers the values that a text writes: nan is one, and 1e1000 is infinite. It panics, if the text writes none.
func All(text string) []api.Value {
	l, f := reader.All(text)
	if f != (api.Fault{}) {
		panic(text)
	}
	return l
}

// One answers the first value that a text writes.
func One(text string) api.Value { return All(text)[0] }

// Many answers an array of n times the same value.
func Many(v api.Value, n int) api.Value {
	out := Arr(make([]api.Value, n)...)
	for i := range out.List {
		out.List[i] = v
	}
	return out
}

// Counted answers the array of 0, 1, .. below n.
func Counted(n int) api.Value {
	out := Arr(make([]api.Value, n)...)
	for i := range out.List {
		out.List[i] = Num(float64(i))
	}
	return out
}

// Nested answers v within n arrays.
func Nested(v api.Value, n int) api.Value {
	for range n {
		v = Arr(v)
	}
	return v
}
