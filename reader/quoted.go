package reader

import (
	"strconv"
	"unicode/utf8"

	"colander/api"
	"colander/runes"
)

// quoted reads a string from its opening quote to the closing one, and answers what it says.
func (s *source) quoted() (string, error) {
	s.at++
	var out []byte
	for !s.isAtEnd() {
		switch c := s.text[s.at]; c {
		case '"':
			s.at++
			return runes.Clean(out), nil
		case '\\':
			point, n := escaped(s.text[s.at:])
			if n == 0 {
				return "", s.refuse(api.ErrEscape, s.at)
			}
			out = utf8.AppendRune(out, point)
			s.at += n
		default:
			out = append(out, c)
			s.at++
		}
	}
	return "", s.refuse(api.ErrEnd, s.at)
}

// escaped answers the code point of the escape that s begins with, and how many bytes it has: none, if it is no escape.
func escaped(s string) (rune, int) {
	if len(s) < 2 {
		return 0, 0
	}
	switch c := s[1]; c {
	case '"', '\\', '/':
		return rune(c), 2
	case 'b':
		return '\b', 2
	case 'f':
		return '\f', 2
	case 'n':
		return '\n', 2
	case 'r':
		return '\r', 2
	case 't':
		return '\t', 2
	}
	return escapedUnits(s)
}

// escapedUnits answers as escaped does, of \u and four digits; two of these may be one code point.
func escapedUnits(s string) (rune, int) {
	const size = len(`\u0000`)
	first, ok := unit(s)
	if !ok {
		return 0, 0
	}
	if isUpper(first) {
		if second, ok := unit(s[size:]); ok && isLower(second) {
			return 0x10000 + (first-0xd800)<<10 + (second - 0xdc00), 2 * size
		}
	}
	if isUpper(first) || isLower(first) {
		return utf8.RuneError, size
	}
	return first, size
}

// isUpper tells whether a unit has the upper bits of a code point whose lower ones stand in the unit behind it.
func isUpper(r rune) bool {
	return r >= 0xd800 && r <= 0xdbff
}

func isLower(r rune) bool {
	return r >= 0xdc00 && r <= 0xdfff
}

// unit answers the number that s begins with, as \u and four digits.
func unit(s string) (rune, bool) {
	const mark, size = `\u`, len(`\u0000`)
	if len(s) < size || s[:len(mark)] != mark {
		return 0, false
	}
	n, err := strconv.ParseUint(s[len(mark):size], 16, 32)
	return rune(n), err == nil
}
