// Package rows looks for rows of values within others.
package rows

import (
	"colander/api"
	"colander/value"
)

// Places answers, rising, where the values of part stand one behind the other in list: none of an empty part. It goes through list once (Knuth, Morris, Pratt), so that no list, however it repeats itself, takes long. What it has found so far equals itself, as that way asks: nothing with NaN in it has been found.
func Places(list, part []api.Value) []int {
	if len(part) == 0 {
		return nil
	}
	var out []int
	back := borders(part)
	same := 0 // how many values of part stand just ahead of here
	for i, x := range list {
		same = further(part, back, same, x)
		if same == len(part) {
			out = append(out, i+1-same)
			same = back[same-1]
		}
	}
	return out
}

// borders tells of each beginning of part how long its longest shorter beginning is that is its end, too.
func borders(part []api.Value) []int {
	out := make([]int, len(part))
	for i := 1; i < len(part); i++ {
		out[i] = further(part, out, out[i-1], part[i])
	}
	return out
}

// further answers how many values of part stand up to x, if so many of them stand just ahead of it.
func further(part []api.Value, back []int, same int, x api.Value) int {
	for !value.Equal(x, part[same]) {
		if same == 0 {
			return 0
		}
		same = back[same-1]
	}
	return same + 1
}
