package sample

import (
	"math"
	"slices"
	"strings"

	"colander/api"
	"colander/value"
)

// Same tells whether two values are the same in all their fields, numbers to the bit, but for which NaN it is.
func Same(a, b api.Value) bool {
	return a.Kind == b.Kind && a.Str == b.Str && sameNumber(a.Num, b.Num) && slices.Equal(a.Keys, b.Keys) && SameRow(a.List, b.List)
}

// SameRow tells whether two lists have the same values.
func SameRow(a, b []api.Value) bool {
	return slices.EqualFunc(a, b, Same)
}

func sameNumber(a, b float64) bool {
	return a != a && b != b || math.Float64bits(a) == math.Float64bits(b)
}

// Shown writes values for people, so much of them as can be looked at.
func Shown(l ...api.Value) string {
	var out []string
	for i, v := range l {
		if i == 20 {
			out = append(out, "..")
			break
		}
		out = append(out, cut(value.Text(v)))
	}
	return strings.Join(out, " ; ")
}

func cut(text string) string {
	const most = 300
	if len(text) > most {
		return text[:most] + ".."
	}
	return text
}

// Wrong tells what is wrong with what a call answers, if it is not a value or, where complaint is not empty, the error that has this text.
func Wrong(got api.Value, err api.Err, want api.Value, complaint string) string {
	fault := api.Err{}
	if complaint != "" {
		want, fault = api.Value{}, api.Err{Is: true, V: Str(complaint)}
	}
	if Same(got, want) && err.Is == fault.Is && Same(err.V, fault.V) {
		return ""
	}
	return "answers " + Shown(got) + " and " + Shown(err.V) + ", want " + Shown(want) + " and " + Shown(fault.V)
}

// Amiss tells what is amiss with a call: that it answers something else than a value or, where complaint is not empty, the error that has this text; that what it answers shares memory with what was handed in; or that it changes that. Text tells where a text's bytes are.
func Amiss(call func(args []api.Value) (api.Value, api.Err), args []api.Value, want api.Value, complaint string, text func(string) any) string {
	handed := ApartRow(args)
	got, err := call(handed)
	if wrong := Wrong(got, err, want, complaint); wrong != "" {
		return wrong
	}
	if wrong := Shared([]api.Value{got, err.V}, handed, text); wrong != "" {
		return wrong
	}
	if !SameRow(handed, args) || !Untouched(Arr(handed...)) {
		return "what was handed in is changed to " + Shown(handed...)
	}
	return ""
}

// Apart answers v in memory of its own, each list with room behind its end.
func Apart(v api.Value) api.Value {
	v.Str = strings.Clone(v.Str)
	v.Keys = append(make([]string, 0, len(v.Keys)+2), v.Keys...)
	for i, k := range v.Keys {
		v.Keys[i] = strings.Clone(k)
	}
	v.List = ApartRow(v.List)
	return v
}

// ApartRow does with each value of a list, and the list, what Apart does.
func ApartRow(l []api.Value) []api.Value {
	out := make([]api.Value, len(l), len(l)+2)
	for i, x := range l {
		out[i] = Apart(x)
	}
	return out
}

// Untouched tells whether the room behind all lists of what Apart made is empty still.
func Untouched(v api.Value) bool {
	keys, list := v.Keys[len(v.Keys):cap(v.Keys)], v.List[len(v.List):cap(v.List)]
	return slices.Equal(keys, make([]string, len(keys))) && SameRow(list, make([]api.Value, len(list))) && !slices.ContainsFunc(v.List, isTouched)
}

func isTouched(v api.Value) bool {
	return !Untouched(v)
}

// Shared tells what is wrong, if an answer shares memory with what was handed in, or parts of it share some. The room behind lists' ends counts; text tells where a text's bytes are.
func Shared(answer, args []api.Value, text func(string) any) string {
	seen, handed := map[any]int{}, map[any]int{}
	count(Arr(answer...), seen, text)
	count(Arr(args...), handed, text)
	for p := range seen {
		if handed[p] > 0 {
			return "the answer shares memory with an argument"
		}
	}
	for _, n := range seen {
		if n > 1 {
			return "parts of the answer share memory"
		}
	}
	return ""
}

// count counts how often lists stand at each address; texts may share memory with each other.
func count(v api.Value, seen map[any]int, text func(string) any) {
	list, keys := v.List[:cap(v.List)], v.Keys[:cap(v.Keys)]
	for i := range list {
		seen[&list[i]]++
	}
	for i := range keys {
		seen[&keys[i]]++
	}
	for _, s := range append([]string{v.Str}, v.Keys...) {
		if s != "" {
			seen[text(s)] = 1
		}
	}
	for _, x := range v.List {
		count(x, seen, text)
	}
}
