package runes_test

import "colander/sample"

// The tests' own model of what the document says, made without the library's UTF-8.

// pieceAt answers how many bytes the piece at byte i has, its code point, and whether it is one.
func pieceAt(s string, i int) (int, int, bool) {
	for n := 1; n <= 4 && i+n <= len(s); n++ {
		if p, ok := pointOf(s[i : i+n]); ok {
			return n, p, true
		}
	}
	return 1, 65533, false
}

// pointOf answers the code point whose bytes these are, if they are some code point's.
func pointOf(b string) (int, bool) {
	lead := []int{0, 0, 0xc0, 0xe0, 0xf0}[len(b)]
	room := []int{0, 0x80, 0x20, 0x10, 0x08}[len(b)]
	p := int(b[0]) - lead
	if p < 0 || p >= room {
		return 0, false
	}
	for i := 1; i < len(b); i++ {
		if b[i] < 0x80 || b[i] > 0xbf {
			return 0, false
		}
		p = p*64 + int(b[i]) - 0x80
	}
	least := []int{0, 0, 0x80, 0x800, 0x10000}[len(b)]
	return p, p >= least && p <= 1114111 && (p < 55296 || p > 57343)
}

// bytesOf answers a code point's bytes.
func bytesOf(p int) string {
	switch {
	case p < 0x80:
		return string([]byte{byte(p)})
	case p < 0x800:
		return string([]byte{byte(0xc0 + p/64), byte(0x80 + p%64)})
	case p < 0x10000:
		return string([]byte{byte(0xe0 + p/4096), byte(0x80 + p/64%64), byte(0x80 + p%64)})
	}
	return string([]byte{byte(0xf0 + p/262144), byte(0x80 + p/4096%64), byte(0x80 + p/64%64), byte(0x80 + p%64)})
}

// piecesOf answers the pieces of s, their code points, and whether all are code points' bytes.
func piecesOf(s string) ([]string, []int, bool) {
	var parts []string
	var points []int
	valid := true
	for i := 0; i < len(s); {
		n, p, ok := pieceAt(s, i)
		parts = append(parts, s[i:i+n])
		points = append(points, p)
		valid = valid && ok
		i += n
	}
	return parts, points, valid
}

// findIn answers the numbers of the pieces at which part stands.
func findIn(s string, part string) []int {
	var out []int
	parts, _, _ := piecesOf(s)
	at := 0
	for i, p := range parts {
		if part != "" && at+len(part) <= len(s) && s[at:at+len(part)] == part {
			out = append(out, i)
		}
		at += len(p)
	}
	return out
}

// splitOf cuts s where by stands.
func splitOf(s string, by string) []string {
	if s == "" {
		return nil
	}
	if by == "" {
		parts, _, _ := piecesOf(s)
		return parts
	}
	out := []string{""}
	for i := 0; i < len(s); {
		if i+len(by) <= len(s) && s[i:i+len(by)] == by {
			out = append(out, "")
			i += len(by)
			continue
		}
		out[len(out)-1] += s[i : i+1]
		i++
	}
	return out
}

// edgeBytes are those at which the ranges of UTF-8's bytes begin and end.
func edgeBytes() []byte {
	return []byte{
		0x00, 0x61, 0x7f, 0x80, 0x8f, 0x90, 0x9f, 0xa0, 0xbf, 0xc0, 0xc1, 0xc2, 0xdf,
		0xe0, 0xe1, 0xec, 0xed, 0xee, 0xef, 0xf0, 0xf1, 0xf3, 0xf4, 0xf5, 0xff,
	}
}

// oddTexts are texts of few pieces, whole and broken ones among them.
func oddTexts(do func(string)) {
	sample.EachText([]string{"a", "b", "\xc3\xa9", "\xa9", "\xc3", "\xef\xbf\xbd", "\xe2\x82", "\xf0\x9f\x98\x80"}, 4, do)
}
