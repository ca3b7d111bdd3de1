package collect

import (
	"strings"

	"colander/api"
	"colander/value"
)

// holder is a value of which it is asked what it contains. What is asked of a part of it again and again is looked up.
type holder struct {
	v      api.Value
	parts  []holder          // an object's values; of an array's values those that contain more than what equals them
	leaves map[leaf]struct{} // an array's values without others in them
	places map[string]int    // where an object's keys stand
}

// leaf is a value without others in it. It is compared as layer 3 does: NaN equals none, 0 and -0 are the same.
type leaf struct {
	kind api.Kind
	num  float64
	str  string
}

func leafOf(v api.Value) leaf {
	return leaf{v.Kind, v.Num, v.Str}
}

func holderOf(v api.Value) holder {
	out := holder{v: v}
	switch v.Kind {
	case api.Array:
		out.leaves = map[leaf]struct{}{}
		for _, x := range v.List {
			if x.Kind < api.Array {
				out.leaves[leafOf(x)] = struct{}{}
			}
			if x.Kind >= api.String {
				out.parts = append(out.parts, holderOf(x))
			}
		}
	case api.Object:
		out.places = map[string]int{}
		for i, key := range v.Keys {
			out.places[key] = i
			out.parts = append(out.parts, holderOf(v.List[i]))
		}
	}
	return out
}

// contains tells whether h contains x.
func (h holder) contains(x api.Value) bool {
	if h.v.Kind != x.Kind {
		return false
	}
	switch x.Kind {
	case api.Object:
		return h.hasFields(x)
	case api.Array:
		return h.hasAll(x.List)
	case api.String:
		return strings.Contains(h.v.Str, x.Str)
	}
	return value.Equal(h.v, x)
}

// hasFields tells whether an object has each key of another one, with a value that contains the other's.
func (h holder) hasFields(x api.Value) bool {
	for i, key := range x.Keys {
		at, ok := h.places[key]
		if !ok || !h.parts[at].contains(x.List[i]) {
			return false
		}
	}
	return true
}

// hasAll tells whether each of some values is contained by one of an array's.
func (h holder) hasAll(list []api.Value) bool {
	next := 0 // where to begin: what comes next is likely to be found next
search:
	for _, x := range list {
		if _, ok := h.leaves[leafOf(x)]; ok {
			continue
		}
		for i := range h.parts {
			at := (next + i) % len(h.parts)
			if h.parts[at].contains(x) {
				next = at + 1
				continue search
			}
		}
		return false
	}
	return true
}
