package sample

import "colander/api"

// EachText does something with each text of up to n of the pieces.
func EachText(pieces []string, n int, do func(string)) {
	do("")
	texts := []string{""}
	for range n {
		var longer []string
		for _, t := range texts {
			for _, p := range pieces {
				longer = append(longer, t+p)
				do(t + p)
			}
		}
		texts = longer
	}
}

// SpotOf counts lines and columns byte by byte.
func SpotOf(s string, off int) api.Spot {
	out := api.Spot{Line: 1, Col: 1}
	for out.Off < off && out.Off < len(s) {
		out.Col++
		if s[out.Off] == 10 {
			out.Line, out.Col = out.Line+1, 1
		}
		out.Off++
	}
	return out
}
