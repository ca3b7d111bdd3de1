package value

import (
	"cmp"
	"math"
	"slices"
	"strings"

	"colander/api"
)

// Compare answers -1, if a comes ahead of b, 1, if it comes behind, and 0, if they are equal.
func Compare(a api.Value, b api.Value) int {
	if a.Kind != b.Kind {
		return cmp.Compare(a.Kind, b.Kind)
	}
	switch a.Kind {
	case api.Number:
		return compareNumbers(a.Num, b.Num)
	case api.String:
		return strings.Compare(a.Str, b.Str)
	case api.Object:
		a, b = sorted(a), sorted(b)
		c := compareRows(len(a.Keys), len(b.Keys), func(i int) int {
			return strings.Compare(a.Keys[i], b.Keys[i])
		})
		if c != 0 {
			return c
		}
		fallthrough
	case api.Array:
		return compareRows(len(a.List), len(b.List), func(i int) int {
			return Compare(a.List[i], b.List[i])
		})
	}
	return 0
}

// Equal tells whether two values are equal: a value with NaN in it equals none.
func Equal(a api.Value, b api.Value) bool {
	return Compare(a, b) == 0
}

func compareNumbers(a, b float64) int {
	// The library takes two NaNs for the same.
	if math.IsNaN(a) {
		return -1
	}
	return cmp.Compare(a, b)
}

// compareRows tells the order of two rows of these lengths by the first place at which one, asked of it, tells them apart; a beginning comes ahead of what begins with it.
func compareRows(a, b int, one func(i int) int) int {
	for i := range min(a, b) {
		if c := one(i); c != 0 {
			return c
		}
	}
	return cmp.Compare(a, b)
}

// sorted answers an object with its keys, and their values, sorted.
func sorted(v api.Value) api.Value {
	if slices.IsSorted(v.Keys) {
		return v
	}
	places := make([]int, len(v.Keys))
	for i := range places {
		places[i] = i
	}
	slices.SortFunc(places, func(i, j int) int {
		return strings.Compare(v.Keys[i], v.Keys[j])
	})
	out := api.Value{
		Kind: api.Object,
		Keys: make([]string, 0, len(places)),
		List: make([]api.Value, 0, len(places)),
	}
	for _, at := range places {
		out.Keys = append(out.Keys, v.Keys[at])
		out.List = append(out.List, v.List[at])
	}
	return out
}
