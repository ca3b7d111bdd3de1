// Package scan has what readers of texts share: where a byte of a text stands, and what an escape stands for.
package scan

import (
	"strconv"
	"strings"
	"unicode/utf8"

	"colander/api"
)

// At answers the spot of byte off, which is taken to the nearest place of s.
func At(s string, off int) api.Spot {
	start := api.Spot{Line: 1, Col: 1}
	return Behind(start, s[:max(0, min(off, len(s)))])
}

// Behind answers the spot of the byte behind a text that begins at a spot.
func Behind(at api.Spot, text string) api.Spot {
	at.Off += len(text)
	at.Line += strings.Count(text, "\n")
	if end := strings.LastIndexByte(text, '\n'); end >= 0 {
		at.Col = len(text) - end
	} else {
		at.Col += len(text)
	}
	return at
}

// Escape answers the code point of the escape that s begins with, and how many bytes it has: none, if it is no escape.
func Escape(s string) (rune, int) {
	if len(s) < 2 || s[0] != '\\' {
		return 0, 0
	}
	switch c := s[1]; c {
	case '"', '\\', '/':
		return rune(c), 2
	case 'b':
		return '\b', 2
	case 'f':
		return '\f', 2
	case 'n':
		return '\n', 2
	case 'r':
		return '\r', 2
	case 't':
		return '\t', 2
	}
	return units(s)
}

// units answers as Escape does, of \u and four digits; two of these may be one code point.
func units(s string) (rune, int) {
	const size = len(`\u0000`)
	first, ok := unit(s)
	if !ok {
		return 0, 0
	}
	if isUpper(first) {
		if second, ok := unit(s[size:]); ok && isLower(second) {
			return 0x10000 + (first-0xd800)<<10 + (second - 0xdc00), 2 * size
		}
	}
	if isUpper(first) || isLower(first) {
		return utf8.RuneError, size
	}
	return first, size
}

// isUpper tells whether a unit has the upper bits of a code point whose lower ones stand in the unit behind it.
func isUpper(r rune) bool {
	return r >= 0xd800 && r <= 0xdbff
}

func isLower(r rune) bool {
	return r >= 0xdc00 && r <= 0xdfff
}

// unit answers the number that s begins with, as \u and four digits.
func unit(s string) (rune, bool) {
	const mark, size = `\u`, len(`\u0000`)
	if len(s) < size || s[:len(mark)] != mark {
		return 0, false
	}
	n, err := strconv.ParseUint(s[len(mark):size], 16, 32)
	return rune(n), err == nil
}
