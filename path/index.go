package path

import (
	"math"
	"slices"
	"strings"

	"colander/answer"
	"colander/api"
	"colander/rows"
	"colander/runes"
	"colander/value"
)

// kinds are those of a value and of a key, by which it is told what is done with them.
type kinds struct {
	v   api.Kind
	key api.Kind
}

// index answers what lies at key; it may share memory with v.
func index(v, key api.Value) (api.Value, api.Err) {
	switch (kinds{v.Kind, key.Kind}) {
	case kinds{api.Object, api.String}:
		return field(v, key.Str), api.Err{}
	case kinds{api.Array, api.Number}:
		return valueAt(v, place(key.Num, len(v.List))), api.Err{}
	case kinds{api.Null, api.String}, kinds{api.Null, api.Number}:
		return api.Value{}, api.Err{}
	case kinds{api.Array, api.Object}, kinds{api.String, api.Object}, kinds{api.Null, api.Object}:
		from, to := ends(key)
		return slice(v, from, to)
	case kinds{api.Array, api.Array}:
		return answer.Numbers(rows.Places(v.List, key.List))
	}
	return api.Value{}, noIndex(v, key)
}

// field answers what an object has for a key, null, if it has nothing.
func field(v api.Value, key string) api.Value {
	at := slices.Index(v.Keys, key)
	if at < 0 {
		return api.Value{}
	}
	return v.List[at]
}

// valueAt answers what an array has at a place, null, if it has nothing.
func valueAt(v api.Value, at float64) api.Value {
	if !isIn(at, len(v.List)) {
		return api.Value{}
	}
	return v.List[int(at)]
}

// place is where a number leads in a list of n values; that may be below 0, behind the end, or no number.
func place(f float64, n int) float64 {
	return fromEnd(math.Floor(f), n)
}

// fromEnd counts what is below 0 from the end of a list of n values.
func fromEnd(f float64, n int) float64 {
	if f < 0 {
		return f + float64(n)
	}
	return f
}

// isIn tells whether a list of n values has a place.
func isIn(at float64, n int) bool {
	return at >= 0 && at < float64(n)
}

// slice answers a part of v; it may share memory with v.
func slice(v, from, to api.Value) (api.Value, api.Err) {
	switch v.Kind {
	case api.Null:
		return v, api.Err{}
	case api.Array:
		first, end, err := bounds(from, to, len(v.List))
		if err.Is {
			return api.Value{}, err
		}
		// What is put behind the part later is not to be written over what stands there.
		return api.Value{Kind: api.Array, List: v.List[first:end:end]}, api.Err{}
	case api.String:
		first, end, err := bounds(from, to, runes.Count(v.Str))
		if err.Is {
			return api.Value{}, err
		}
		return api.Value{Kind: api.String, Str: runes.Slice(v.Str, first, end)}, api.Err{}
	}
	return api.Value{}, answer.Failure("Cannot index " + value.Name(v) + " with object")
}

// ends are the two ends of the slice that a key tells.
func ends(key api.Value) (api.Value, api.Value) {
	return field(key, "start"), field(key, "end")
}

// bounds answers the first place of a slice of n values, and that just behind its last one, which is never below the first one.
func bounds(from, to api.Value, n int) (int, int, api.Err) {
	if !isEnd(from) || !isEnd(to) {
		return 0, 0, answer.Failure("Start and end indices of an array slice must be numbers")
	}
	first := bound(from, math.Floor, 0, n)
	return first, max(first, bound(to, math.Ceil, n, n)), api.Err{}
}

func isEnd(v api.Value) bool {
	return v.Kind == api.Null || v.Kind == api.Number
}

// bound answers the place of a slice's end, rounded as round does; none, if no number tells it.
func bound(end api.Value, round func(float64) float64, none, n int) int {
	if end.Kind == api.Null || math.IsNaN(end.Num) {
		return none
	}
	return int(min(max(fromEnd(round(end.Num), n), 0), float64(n)))
}

// keyAt is the key of the part of v that stands at a place of its list.
func keyAt(v api.Value, i int) api.Value {
	if v.Kind == api.Object {
		return api.Value{Kind: api.String, Str: strings.Clone(v.Keys[i])}
	}
	return answer.Number(i)
}

// noIndex tells that a key leads nowhere in v.
func noIndex(v, key api.Value) api.Err {
	name := value.Name(key)
	if key.Kind == api.String {
		name = `"` + key.Str + `"`
	}
	return answer.Failure("Cannot index " + value.Name(v) + " with " + name)
}
