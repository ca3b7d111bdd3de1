package runes

import (
	"iter"
	"strings"
	"unicode/utf8"
)

// Find answers the numbers of the pieces of s at whose first byte part stands, rising.
func Find(s string, part string) []int {
	var out []int
	at, piece := 0, 0
	for place := range places(s, part) {
		for at < place {
			_, n := utf8.DecodeRuneInString(s[at:])
			at += n
			piece++
		}
		// A place within a piece was passed over: it is none of its first byte.
		if at == place {
			out = append(out, piece)
		}
	}
	return out
}

// Split cuts s where by stands; by the empty text, into its pieces.
func Split(s string, by string) []string {
	if s == "" {
		return nil
	}
	own := strings.Clone(s) // an answer is new memory: the parts are cut out of it
	if by == "" {
		return pieces(own)
	}
	var out []string
	start := 0
	for place := range places(own, by) {
		if place < start { // within the separator ahead of it
			continue
		}
		out = append(out, own[start:place])
		start = place + len(by)
	}
	return append(out, own[start:])
}

// pieces answers the pieces of a text that is not empty.
func pieces(s string) []string {
	var out []string
	start := 0
	for i := range s {
		if i > start {
			out = append(out, s[start:i])
			start = i
		}
	}
	return append(out, s[start:])
}

// places gives the bytes of s at which part stands, rising; none for the empty part. It looks at each byte of s once (Knuth, Morris, Pratt), so that no text, however it repeats itself, takes long.
func places(s string, part string) iter.Seq[int] {
	return func(yield func(int) bool) {
		if part == "" || len(part) > len(s) {
			return
		}
		back := borders(part)
		same := 0 // how many bytes of part stand just ahead of here
		for i := 0; i < len(s); i++ {
			for same > 0 && s[i] != part[same] {
				same = back[same-1]
			}
			if s[i] == part[same] {
				same++
			}
			if same == len(part) {
				if !yield(i + 1 - same) {
					return
				}
				same = back[same-1]
			}
		}
	}
}

// borders tells of each beginning of part how long its longest shorter beginning is that is its end, too.
func borders(part string) []int {
	out := make([]int, len(part))
	same := 0
	for i := 1; i < len(part); i++ {
		for same > 0 && part[i] != part[same] {
			same = out[same-1]
		}
		if part[i] == part[same] {
			same++
		}
		out[i] = same
	}
	return out
}
