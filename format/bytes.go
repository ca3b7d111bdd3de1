package format

import "strings"

// each answers what put writes of each byte of s.
func each(s string, put func(out *strings.Builder, c byte)) string {
	var out strings.Builder
	out.Grow(len(s))
	for i := range len(s) {
		put(&out, s[i])
	}
	return out.String()
}

// swap is a byte, and what is to stand in its place.
type swap struct {
	from byte
	to   string
}

// replaced answers s with what is to stand there in the places of some bytes.
func replaced(s string, swaps ...swap) string {
	return each(s, func(out *strings.Builder, c byte) {
		for _, x := range swaps {
			if x.from == c {
				out.WriteString(x.to)
				return
			}
		}
		out.WriteByte(c)
	})
}

// markup answers s as HTML shows it.
func markup(s string) string {
	return replaced(s, swap{'<', "&lt;"}, swap{'>', "&gt;"}, swap{'&', "&amp;"}, swap{'\'', "&#39;"}, swap{'"', "&quot;"})
}

// address answers s as a part of an URI.
func address(s string) string {
	const hex = "0123456789ABCDEF"
	return each(s, func(out *strings.Builder, c byte) {
		if isPlain(c) {
			out.WriteByte(c)
			return
		}
		out.WriteByte('%')
		out.WriteByte(hex[c/16])
		out.WriteByte(hex[c%16])
	})
}

// isPlain tells whether a byte stands for itself in an URI.
func isPlain(c byte) bool {
	return c >= 'A' && c <= 'Z' || c >= 'a' && c <= 'z' || c >= '0' && c <= '9' || strings.IndexByte("-_.~", c) >= 0
}
