package rows_test

import (
	"math"
	"slices"
	"testing"

	"colander/api"
	"colander/rows"
	"colander/value"
)

// allRows answers all rows of up to n of some values.
func allRows(some []api.Value, n int) [][]api.Value {
	out := [][]api.Value{nil}
	for begin := 0; n > 0; n-- {
		end := len(out)
		for _, row := range out[begin:end] {
			for _, x := range some {
				out = append(out, append(slices.Clone(row), x))
			}
		}
		begin = end
	}
	return out
}

// placesOf looks at each place by itself.
func placesOf(list, part []api.Value) []int {
	var out []int
	for i := 0; len(part) > 0 && i+len(part) <= len(list); i++ {
		if slices.EqualFunc(list[i:i+len(part)], part, value.Equal) {
			out = append(out, i)
		}
	}
	return out
}

func number(f float64) api.Value { return api.Value{Kind: api.Number, Num: f} }

// TestPlaces looks for all short rows of few values within all longer ones, as a row that begins anew within itself is where a quick search goes wrong.
func TestPlaces(t *testing.T) {
	for _, some := range [][]api.Value{
		{number(0), number(1)},
		{number(0), number(math.Copysign(0, -1))},
		{number(0), number(math.NaN())},
		{{Kind: api.Array, List: []api.Value{number(1)}}, {Kind: api.Array, List: []api.Value{number(math.NaN())}}},
	} {
		lists := allRows(some, 9)
		for _, part := range allRows(some, 5) {
			for _, list := range lists {
				if got, want := rows.Places(list, part), placesOf(list, part); !slices.Equal(got, want) {
					t.Fatal("Places:", got, "want", want, "of", list, part)
				}
			}
		}
	}
}
