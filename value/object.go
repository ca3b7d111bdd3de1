package value

import (
	"slices"

	"colander/api"
	"colander/runes"
)

// Keys answers an object's keys, sorted.
func Keys(v api.Value) []string {
	out := copyKeys(v.Keys)
	slices.Sort(out)
	return out
}

// Get answers an object's value of key, and whether there is one.
func Get(v api.Value, key string) (api.Value, bool) {
	at := place(v, keyOf(key))
	if at < 0 {
		return api.Value{}, false
	}
	return copyOf(v.List[at]), true
}

// Put answers an object with x for key: in its old place, or behind all others.
func Put(v api.Value, key string, x api.Value) api.Value {
	out := copyOf(v)
	if v.Kind != api.Object {
		return out
	}
	key = keyOf(key)
	if at := place(v, key); at >= 0 {
		out.List[at] = copyOf(x)
		return out
	}
	out.Keys = append(out.Keys, key)
	out.List = append(out.List, copyOf(x))
	return out
}

// Drop answers an object without key.
func Drop(v api.Value, key string) api.Value {
	out := copyOf(v)
	if at := place(v, keyOf(key)); at >= 0 {
		out.Keys = slices.Delete(out.Keys, at, at+1)
		out.List = slices.Delete(out.List, at, at+1)
	}
	return out
}

// place answers where key stands in an object, -1, if it does not; in what is no object nothing stands.
func place(v api.Value, key string) int {
	return slices.Index(v.Keys, key)
}

// keyOf answers the key that a text is: bad bytes count as the code point that they count as in any text, as no value may have them.
func keyOf(text string) string {
	return runes.Clean([]byte(text))
}

// merge answers a with each key of b put, in order; where both have it, join is asked for the value.
func merge(a, b api.Value, join func(old, other api.Value) api.Value) api.Value {
	places := make(map[string]int, len(a.Keys))
	for i, k := range a.Keys {
		places[k] = i
	}
	out := api.Value{Kind: api.Object, Keys: slices.Clone(a.Keys), List: slices.Clone(a.List)}
	for i, k := range b.Keys {
		if at, ok := places[k]; ok {
			out.List[at] = join(a.List[at], b.List[i])
			continue
		}
		out.Keys = append(out.Keys, k)
		out.List = append(out.List, b.List[i])
	}
	return out
}
