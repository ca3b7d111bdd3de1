package path_test

import (
	"math"
	"math/rand"
	"testing"
	"unsafe"

	"colander/api"
	"colander/sample"
	"colander/value"
)

// What the tests of several packages have in common.
var (
	num, str, arr, obj         = sample.Num, sample.Str, sample.Arr, sample.Obj
	vals, val                  = sample.All, sample.One
	many, counted, nested      = sample.Many, sample.Counted, sample.Nested
	same, sameRow, shown       = sample.Same, sample.SameRow, sample.Shown
	apart, apartRow, untouched = sample.Apart, sample.ApartRow, sample.Untouched
)

// How the tests make values.

var (
	null  = api.Value{Kind: api.Null}
	yes   = api.Value{Kind: api.True}
	nan   = num(math.NaN())
	minus = num(math.Copysign(0, -1))
	inf   = num(math.Inf(1))
)

// part is the key of a slice.
func part(from, to api.Value) api.Value { return obj("start end", from, to) }

// steps answers the path that an array's text writes.
func steps(text string) []api.Value { return val(text).List }

// samples are values of all kinds, the edges among them.
func samples() []api.Value {
	return append(vals(`null false true 0 -0 1 -1 1.5 -1.5 -0.5 0.5 2 3 nan 1e1000 -1e1000 65536 1e300
		"" "a" "b" "abc" "é😀z" [] {} [1] [1,2,3] [2,3] [0,0,0] [[]] [[1,2],[3]] [null] [nan] [nan,1] ["a",{"b":[1]}] [[1],[1]]
		{"a":1} {"b":1,"a":2} {"a":null} {"":{"a":[1,2]}} {"start":1} {"end":-1} {"start":0,"end":1} {"end":2,"start":1} {"start":null,"end":null}
		{"start":2,"end":1} {"start":-1,"end":null} {"start":"a","end":1} {"start":0,"end":[]} {"start":nan,"end":nan} {"start":0.5,"end":1.5} {"start":0,"end":1,"more":2}`),
		inf, nested(yes, 30))
}

// somewhat answers any value of at most so many levels within it.
func somewhat(r *rand.Rand, levels int) api.Value {
	n := 8
	if levels == 0 {
		n = 4
	}
	switch r.Intn(n) {
	case 0:
		return []api.Value{null, yes, {Kind: api.False}}[r.Intn(3)]
	case 1:
		return str([]string{"", "a", "abc", "é😀z"}[r.Intn(4)])
	case 2, 3:
		return num(float64(r.Intn(3)))
	case 4, 5:
		out := obj("")
		for _, i := range r.Perm(4)[:r.Intn(5)] {
			out.Keys = append(out.Keys, []string{"", "a", "b", "é"}[i])
			out.List = append(out.List, somewhat(r, levels-1))
		}
		return out
	}
	out := arr()
	for range r.Intn(5) {
		out.List = append(out.List, somewhat(r, levels-1))
	}
	return out
}

// someNumber answers a number near the places of short lists, mostly.
func someNumber(r *rand.Rand) api.Value {
	odd := []api.Value{nan, inf, num(math.Inf(-1)), minus, num(-0.5), num(1e300), num(-1e300), num(65536), num(-65536), num(1 << 53)}
	if r.Intn(6) == 0 {
		return odd[r.Intn(len(odd))]
	}
	return num(float64(r.Intn(21)-10) / 2)
}

// somePart answers the key of a slice, or an object that is nearly one.
func somePart(r *rand.Rand) api.Value {
	end := func() api.Value {
		switch r.Intn(12) {
		case 0:
			return []api.Value{str("a"), yes, arr(), obj("")}[r.Intn(4)]
		case 1, 2, 3:
			return null
		}
		return someNumber(r)
	}
	switch r.Intn(8) {
	case 0:
		return obj("start", end())
	case 1:
		return obj("end", end())
	case 2:
		return obj("more end start", null, end(), end())
	}
	return part(end(), end())
}

func someKey(r *rand.Rand) api.Value {
	switch r.Intn(12) {
	case 0:
		return somewhat(r, 1)
	case 1, 2, 3:
		return somePart(r)
	case 4, 5, 6:
		return str([]string{"", "a", "b", "é", "new"}[r.Intn(5)])
	}
	return someNumber(r)
}

// somePath answers a path of at most so many steps, which often leads somewhere in v.
func somePath(r *rand.Rand, v api.Value, most int) []api.Value {
	var out []api.Value
	for range r.Intn(most + 1) {
		key := someKey(r)
		if n := len(v.List); n > 0 && r.Intn(5) > 0 {
			key = num(float64(r.Intn(n)))
			if v.Kind == api.Object {
				key = str(v.Keys[r.Intn(n)])
			} else if r.Intn(4) == 0 {
				key = part(num(float64(r.Intn(n))), null)
			}
		}
		out = append(out, key)
		v, _ = indexOf(v, key)
	}
	return out
}

// How the tests hold values against each other.

// checkOutcome holds an answer against a value, or against why there is none, if complaint is not empty.
func checkOutcome(t *testing.T, call string, got api.Value, err api.Err, want api.Value, complaint string) {
	t.Helper()
	if wrong := sample.Wrong(got, err, want, complaint); wrong != "" {
		t.Fatalf("%s %s", call, wrong)
	}
}

// checkOwn holds that an answer shares nothing with what was handed in, nor within itself.
func checkOwn(t *testing.T, call string, answer []api.Value, args ...api.Value) {
	t.Helper()
	wrong := sample.Shared(answer, args, func(text string) any { return unsafe.StringData(text) })
	if wrong != "" {
		t.Fatalf("%s: %s", call, wrong)
	}
}

// The tests' own model of what the chapter says, made by its words and without haste. Each answers a value, and why there is none, or "".

func nameOf(v api.Value) string {
	return []string{"null", "boolean", "boolean", "number", "string", "array", "object"}[v.Kind]
}

// kindsOf are the names of a value and a key, by which the chapter tells cases apart.
func kindsOf(v, key api.Value) string { return nameOf(v) + " " + nameOf(key) }

func fieldOf(v api.Value, key string) api.Value {
	for i, k := range v.Keys {
		if k == key {
			return v.List[i]
		}
	}
	return null
}

// cannotIndex is the chapter's `Cannot index N with K`.
func cannotIndex(v, key api.Value) (api.Value, string) {
	if key.Kind == api.String {
		return null, "Cannot index " + nameOf(v) + " with \"" + key.Str + "\""
	}
	return null, "Cannot index " + nameOf(v) + " with " + nameOf(key)
}

// placeOf answers which of n places a number tells, from either end: -1, if it is none.
func placeOf(f float64, n int) int {
	for i := range n {
		if f >= float64(i) && f < float64(i+1) || f >= float64(i-n) && f < float64(i-n+1) {
			return i
		}
	}
	return -1
}

func indexOf(v, key api.Value) (api.Value, string) {
	switch kindsOf(v, key) {
	case "object string":
		return fieldOf(v, key.Str), ""
	case "array number":
		if at := placeOf(key.Num, len(v.List)); at >= 0 {
			return v.List[at], ""
		}
		return null, ""
	case "null string", "null number":
		return null, ""
	case "array object", "string object", "null object":
		return sliceOf(v, fieldOf(key, "start"), fieldOf(key, "end"))
	case "array array":
		return placesOf(v.List, key.List)
	}
	return cannotIndex(v, key)
}

func placesOf(list, inner []api.Value) (api.Value, string) {
	out := arr()
	for i := 0; i+len(inner) <= len(list) && len(inner) > 0; i++ {
		alike := true
		for j, x := range inner {
			alike = alike && value.Equal(list[i+j], x)
		}
		if alike {
			out.List = append(out.List, num(float64(i)))
		}
	}
	return unlessLarge(out)
}

func unlessLarge(v api.Value) (api.Value, string) {
	if value.Large(v) {
		return null, "value is too large"
	}
	return v, ""
}

// spanOf tells of each of n places whether a slice has it, and where it begins.
func spanOf(from, to api.Value, n int) ([]bool, int, string) {
	for _, end := range []api.Value{from, to} {
		if end.Kind != api.Null && end.Kind != api.Number {
			return nil, 0, "Start and end indices of an array slice must be numbers"
		}
	}
	lo, hi := 0.0, float64(n)
	if from.Kind == api.Number && from.Num == from.Num {
		if lo = math.Floor(from.Num); lo < 0 {
			lo += float64(n)
		}
	}
	if to.Kind == api.Number && to.Num == to.Num {
		if hi = math.Ceil(to.Num); hi < 0 {
			hi += float64(n)
		}
	}
	chosen, begin := make([]bool, n), 0
	for i := range n {
		chosen[i] = lo <= float64(i) && float64(i) < hi
		if float64(i) < lo {
			begin = i + 1
		}
	}
	return chosen, begin, ""
}

func sliceOf(v, from, to api.Value) (api.Value, string) {
	switch nameOf(v) {
	case "null":
		return null, ""
	case "array":
		out := arr()
		chosen, _, complaint := spanOf(from, to, len(v.List))
		for i, is := range chosen {
			if is {
				out.List = append(out.List, v.List[i])
			}
		}
		if complaint != "" {
			return null, complaint
		}
		return out, ""
	case "string":
		points := []rune(v.Str)
		chosen, _, complaint := spanOf(from, to, len(points))
		text := ""
		for i, is := range chosen {
			if is {
				text += string(points[i])
			}
		}
		if complaint != "" {
			return null, complaint
		}
		return str(text), ""
	}
	return null, "Cannot index " + nameOf(v) + " with object"
}

// hasOf answers whether v has a key as true or false.
func hasOf(v, key api.Value) (bool, string) {
	switch kindsOf(v, key) {
	case "object string":
		for _, k := range v.Keys {
			if k == key.Str {
				return true, ""
			}
		}
		return false, ""
	case "array number":
		for i := range v.List {
			if float64(i) <= key.Num && key.Num < float64(i+1) {
				return true, ""
			}
		}
		return false, ""
	}
	return false, "Cannot check whether " + nameOf(v) + " has a " + nameOf(key) + " key"
}

func setOf(v, key, x api.Value) (api.Value, string) {
	switch kindsOf(v, key) {
	case "null string":
		return setOf(obj(""), key, x)
	case "null number", "null object":
		return setOf(arr(), key, x)
	case "object string":
		return unlessLarge(value.Put(v, key.Str, x))
	case "array number":
		at := math.Floor(key.Num)
		if at < 0 {
			at += float64(len(v.List))
		}
		if at < 0 {
			return null, "Out of bounds negative array index"
		}
		if !(at < 65536) {
			return null, "Array index too large"
		}
		out := many(null, max(len(v.List), int(at)+1))
		copy(out.List, v.List)
		out.List[int(at)] = x
		return unlessLarge(out)
	case "array object":
		if x.Kind != api.Array {
			return null, "A slice of an array can only be assigned another array"
		}
		chosen, begin, complaint := spanOf(fieldOf(key, "start"), fieldOf(key, "end"), len(v.List))
		if complaint != "" {
			return null, complaint
		}
		out := arr(append([]api.Value(nil), v.List[:begin]...)...)
		out.List = append(out.List, x.List...)
		for i := begin; i < len(v.List); i++ {
			if !chosen[i] {
				out.List = append(out.List, v.List[i])
			}
		}
		return unlessLarge(out)
	}
	return cannotIndex(v, key)
}

func getOf(v api.Value, path []api.Value) (api.Value, string) {
	if len(path) == 0 || v.Kind == api.Null {
		return v, ""
	}
	x, complaint := indexOf(v, path[0])
	if complaint != "" {
		return null, complaint
	}
	return getOf(x, path[1:])
}

func putOf(v api.Value, path []api.Value, x api.Value) (api.Value, string) {
	if len(path) > 1000 {
		return null, "Path is too long"
	}
	if len(path) == 0 {
		return x, ""
	}
	inner, complaint := null, ""
	if v.Kind != api.Null {
		inner, complaint = indexOf(v, path[0])
	}
	if complaint == "" {
		inner, complaint = putOf(inner, path[1:], x)
	}
	if complaint != "" {
		return null, complaint
	}
	return setOf(v, path[0], inner)
}

// deleteOf takes out the greatest path again and again: the first one is taken, and each one that is above the one taken takes its place.
func deleteOf(v api.Value, paths [][]api.Value) (api.Value, string) {
	left := append([][]api.Value(nil), paths...)
	for len(left) > 0 {
		taken := 0
		for i := range left {
			if value.Compare(arr(left[i]...), arr(left[taken]...)) > 0 {
				taken = i
			}
		}
		var complaint string
		if v, complaint = withoutPath(v, left[taken]); complaint != "" {
			return null, complaint
		}
		left = append(left[:taken], left[taken+1:]...)
	}
	return v, ""
}

func withoutPath(v api.Value, path []api.Value) (api.Value, string) {
	if len(path) == 0 || v.Kind == api.Null {
		return null, ""
	}
	if len(path) == 1 {
		return withoutKey(v, path[0])
	}
	x, complaint := indexOf(v, path[0])
	if complaint != "" {
		return null, complaint
	}
	if x.Kind == api.Null {
		return v, ""
	}
	if x, complaint = withoutPath(x, path[1:]); complaint != "" {
		return null, complaint
	}
	return setOf(v, path[0], x)
}

func withoutKey(v, key api.Value) (api.Value, string) {
	gone := make([]bool, len(v.List))
	switch kindsOf(v, key) {
	case "object string":
		return value.Drop(v, key.Str), ""
	case "array number":
		if at := placeOf(key.Num, len(v.List)); at >= 0 {
			gone[at] = true
		}
	case "array object":
		var complaint string
		if gone, _, complaint = spanOf(fieldOf(key, "start"), fieldOf(key, "end"), len(v.List)); complaint != "" {
			return null, complaint
		}
	case "array string":
		return null, "Cannot delete field at object index of array"
	case "object number":
		return null, "Cannot delete field at array index of object"
	default:
		return null, "Cannot delete fields from " + nameOf(v)
	}
	out := arr()
	for i, x := range v.List {
		if !gone[i] {
			out.List = append(out.List, x)
		}
	}
	return out, ""
}

// pathsOf puts each part's path ahead of those within it, from the outside in.
func pathsOf(v api.Value) [][]api.Value {
	var out [][]api.Value
	for i, x := range v.List {
		key := num(float64(i))
		if v.Kind == api.Object {
			key = str(v.Keys[i])
		}
		out = append(out, []api.Value{key})
		for _, inner := range pathsOf(x) {
			out = append(out, append([]api.Value{key}, inner...))
		}
	}
	return out
}

// shownPaths writes paths for people.
func shownPaths(paths [][]api.Value) string { return shown(rowOf(paths).List...) }

// rowOf answers paths as an array of arrays.
func rowOf(paths [][]api.Value) api.Value {
	out := arr()
	for _, p := range paths {
		out.List = append(out.List, arr(p...))
	}
	return out
}
