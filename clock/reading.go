package clock

import (
	"strings"

	"colander/runes"
)

// reading is a text on its way: what is left of it, and what it has told, in so many turns.
type reading struct {
	left  string
	told  facts
	turns int
}

// tell takes what the text tells of a part of the time.
func (r *reading) tell(p part, n int) {
	r.turns++
	r.told[p] = fact{n, r.turns}
}

// literal reads what stands for a byte of a format that is no directive: a blank stands for any many of them.
func (r *reading) literal(c byte) bool {
	if isBlank(c) {
		r.skip(isBlank)
		return true
	}
	if r.left == "" || r.left[0] != c {
		return false
	}
	r.left = r.left[1:]
	return true
}

// cut reads a piece of text, if it stands there.
func (r *reading) cut(piece string) bool {
	left, found := strings.CutPrefix(r.left, piece)
	r.left = left
	return found
}

// cutName reads a name in letters of either case, if it stands there.
func (r *reading) cutName(name string) bool {
	if len(r.left) < len(name) || runes.Case(r.left[:len(name)], false) != runes.Case(name, false) {
		return false
	}
	r.left = r.left[len(name):]
	return true
}

// skip reads the bytes of a kind that stand there.
func (r *reading) skip(is func(c byte) bool) {
	n := 0
	for n < len(r.left) && is(r.left[n]) {
		n++
	}
	r.left = r.left[n:]
}

// digits reads the digits that stand there, but no more than so many, and tells how many they are.
func (r *reading) digits(most int) (n, found int) {
	for found < most && found < len(r.left) && isDigit(r.left[found]) {
		n = n*10 + int(r.left[found]-'0')
		found++
	}
	r.left = r.left[found:]
	return n, found
}

func isBlank(c byte) bool {
	return c == ' ' || c >= '\t' && c <= '\r'
}

func isDigit(c byte) bool {
	return c >= '0' && c <= '9'
}

func isLetter(c byte) bool {
	return c >= 'A' && c <= 'Z' || c >= 'a' && c <= 'z'
}
