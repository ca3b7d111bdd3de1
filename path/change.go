package path

import (
	"math"
	"slices"
	"strings"

	"colander/answer"
	"colander/api"
	"colander/value"
)

// What stands here changes values that are the call's own: it writes over their memory.

// setter is setAny, or setSmall.
type setter func(v, key, x api.Value) (api.Value, api.Err)

// setSmall puts x at key, unless what comes of that is too large.
func setSmall(v, key, x api.Value) (api.Value, api.Err) {
	out, err := setAny(v, key, x)
	if err.Is {
		return api.Value{}, err
	}
	return answer.Small(out)
}

// setAny puts x at key, however large that gets.
func setAny(v, key, x api.Value) (api.Value, api.Err) {
	if v.Kind == api.Null {
		v = emptyFor(key)
	}
	switch (kinds{v.Kind, key.Kind}) {
	case kinds{api.Object, api.String}:
		return setField(v, key.Str, x), api.Err{}
	case kinds{api.Array, api.Number}:
		return setPlace(v, place(key.Num, len(v.List)), x)
	case kinds{api.Array, api.Object}:
		return setSlice(v, key, x)
	}
	return api.Value{}, noIndex(v, key)
}

// emptyFor is what null counts as, if something is put at a key of it.
func emptyFor(key api.Value) api.Value {
	switch key.Kind {
	case api.String:
		return api.Value{Kind: api.Object}
	case api.Number, api.Object:
		return api.Value{Kind: api.Array}
	}
	return api.Value{}
}

func setField(v api.Value, key string, x api.Value) api.Value {
	if at := slices.Index(v.Keys, key); at >= 0 {
		v.List[at] = x
		return v
	}
	v.Keys = append(v.Keys, strings.Clone(key))
	v.List = append(v.List, x)
	return v
}

func setPlace(v api.Value, at float64, x api.Value) (api.Value, api.Err) {
	const places = 65536
	if at < 0 {
		return api.Value{}, answer.Failure("Out of bounds negative array index")
	}
	if math.IsNaN(at) || at >= places {
		return api.Value{}, answer.Failure("Array index too large")
	}
	if missing := int(at) + 1 - len(v.List); missing > 0 {
		v.List = append(v.List, make([]api.Value, missing)...)
	}
	v.List[int(at)] = x
	return v, api.Err{}
}

func setSlice(v, key, x api.Value) (api.Value, api.Err) {
	if x.Kind != api.Array {
		return api.Value{}, answer.Failure("A slice of an array can only be assigned another array")
	}
	from, to := ends(key)
	first, end, err := bounds(from, to, len(v.List))
	if err.Is {
		return api.Value{}, err
	}
	v.List = slices.Concat(v.List[:first], x.List, v.List[end:])
	return v, api.Err{}
}

// remove takes out what lies at key.
func remove(v, key api.Value) (api.Value, api.Err) {
	switch (kinds{v.Kind, key.Kind}) {
	case kinds{api.Object, api.String}:
		if at := slices.Index(v.Keys, key.Str); at >= 0 {
			v.Keys = slices.Delete(v.Keys, at, at+1)
			v.List = slices.Delete(v.List, at, at+1)
		}
		return v, api.Err{}
	case kinds{api.Array, api.Number}:
		if at := place(key.Num, len(v.List)); isIn(at, len(v.List)) {
			v.List = slices.Delete(v.List, int(at), int(at)+1)
		}
		return v, api.Err{}
	case kinds{api.Array, api.Object}:
		from, to := ends(key)
		first, end, err := bounds(from, to, len(v.List))
		if err.Is {
			return api.Value{}, err
		}
		v.List = slices.Delete(v.List, first, end)
		return v, api.Err{}
	case kinds{api.Array, api.String}:
		return api.Value{}, answer.Failure("Cannot delete field at object index of array")
	case kinds{api.Object, api.Number}:
		return api.Value{}, answer.Failure("Cannot delete field at array index of object")
	}
	return api.Value{}, answer.Failure("Cannot delete fields from " + value.Name(v))
}
