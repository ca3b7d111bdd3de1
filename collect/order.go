package collect

import (
	"slices"

	"colander/answer"
	"colander/api"
	"colander/value"
)

// unkeyed tells why v's values have no keys by which something can be done with them, if by has not one for each.
func unkeyed(v, by api.Value, done string) api.Err {
	if v.Kind != api.Array {
		return answer.Failure(answer.Told(v) + " cannot be " + done + ", as it is not an array")
	}
	if !arePaired(v, by) {
		return answer.Failure(answer.Told(v) + " and " + answer.Told(by) + " cannot be " + done + ", as they are not both arrays")
	}
	return api.Err{}
}

// arePaired tells whether two values are arrays of as many values.
func arePaired(v, by api.Value) bool {
	return v.Kind == api.Array && by.Kind == api.Array && len(v.List) == len(by.List)
}

// inOrder answers the places of keys in an order; keys of which neither is ahead stay as they stand.
func inOrder(keys []api.Value, order func(a, b api.Value) int) []int {
	out := upTo(len(keys))
	// With places that tell apart what the order does not, any way of sorting will do, the quickest, too.
	slices.SortFunc(out, func(i, j int) int {
		if c := order(keys[i], keys[j]); c != 0 {
			return c
		}
		return i - j
	})
	return out
}

// whoIsAhead tells the order of two keys. Where NaN meets NaN, Compare tells either one that it comes first, and neither is ahead.
func whoIsAhead(a, b api.Value) int {
	c := value.Compare(a, b)
	if c < 0 && value.Compare(b, a) < 0 {
		return 0
	}
	return c
}

// groups answers the places of equal keys together, in the keys' order. A key with NaN in it equals none.
func groups(by []api.Value) [][]int {
	var out [][]int
	places := inOrder(by, whoIsAhead)
	begin := 0
	for i := range places {
		end := i + 1
		if end == len(places) || !value.Equal(by[places[i]], by[places[end]]) {
			out = append(out, places[begin:end])
			begin = end
		}
	}
	return out
}

// best answers v's first value, or the last one of the later ones whose key takes the place of the key held so far.
func best(v, by api.Value, takes func(key, held api.Value) bool) (api.Value, api.Err) {
	if !arePaired(v, by) {
		return api.Value{}, answer.Failure(answer.Told(v) + " and " + answer.Told(by) + " cannot be iterated over")
	}
	if len(v.List) == 0 {
		return api.Value{}, api.Err{}
	}
	held := 0
	for i, key := range by.List {
		if takes(key, by.List[held]) {
			held = i
		}
	}
	return answer.Own(v.List[held]), api.Err{}
}
