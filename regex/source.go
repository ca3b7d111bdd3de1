package regex

import (
	"slices"
	"strings"
	"unicode/utf8"

	"colander/api"
)

// source is a pattern that has been read up to byte at.
type source struct {
	text      string
	extended  bool
	at        int
	open      int      // how many parentheses are open
	names     []string // of the groups whose ( has been read; an empty one of a group without
	backs     []back
	behindAnd int // the byte behind the last & of a set that had no backslash
}

// back is a node that leads back to a group, and the byte at which it stands. Whether there is such a group is known behind the end.
type back struct {
	at   int
	node api.Pat
}

// read answers the tree of a whole pattern.
func read(text string, extended bool) api.Pat {
	if len(text) > api.MaxPat {
		panic(refusal{0})
	}
	s := source{text: text, extended: extended}
	p := s.pattern()
	if !s.isAtEnd() {
		panic(refusal{s.at}) // a ) that nothing opened
	}
	for _, b := range s.backs {
		if !leadsBack(b.node, s.names) {
			panic(refusal{b.at})
		}
	}
	return p
}

// leadsBack tells whether an XBack names one of the groups with these names.
func leadsBack(p api.Pat, names []string) bool {
	if p.Text == "" {
		return p.N >= 1 && p.N <= len(names)
	}
	return p.N == 0 && slices.Contains(names, p.Text)
}

func (s *source) isAtEnd() bool {
	return s.at == len(s.text)
}

func (s *source) isAt(sign string) bool {
	return strings.HasPrefix(s.text[s.at:], sign)
}

// isAtOneOf tells whether the next byte is within ranges, given as pairs.
func (s *source) isAtOneOf(pairs string) bool {
	return !s.isAtEnd() && isWithin(pairs, s.text[s.at])
}

// take goes past a sign, if it stands next.
func (s *source) take(sign string) bool {
	if !s.isAt(sign) {
		return false
	}
	s.at += len(sign)
	return true
}

// expect goes past a sign of one byte, which must stand next.
func (s *source) expect(sign string) {
	if !s.take(sign) {
		panic(refusal{s.at})
	}
}

// point reads one code point, whatever it is.
func (s *source) point() int {
	if s.isAtEnd() {
		panic(refusal{s.at})
	}
	r, size := utf8.DecodeRuneInString(s.text[s.at:])
	s.at += size
	return int(r)
}

// skip goes past what stands for nothing in an extended pattern.
func (s *source) skip() {
	for s.extended && (s.isAtOneOf(blanks) || s.isAt("#")) {
		if s.isAt("#") {
			s.skipLine()
		} else {
			s.at++
		}
	}
}

// skipLine goes to the end of this line.
func (s *source) skipLine() {
	for !s.isAtEnd() && !s.isAt("\n") {
		s.at++
	}
}

// name reads a name and the > behind it.
func (s *source) name() string {
	start := s.at
	for !s.isAtEnd() && isName(s.text[start:s.at+1]) {
		s.at++
	}
	if s.at == start {
		panic(refusal{s.at})
	}
	name := strings.Clone(s.text[start:s.at]) // an answer is new memory
	s.expect(">")
	return name
}

// isName tells whether a group may have this name.
func isName(text string) bool {
	const longest = 32
	if text == "" || len(text) > longest || isWithin(digits, text[0]) {
		return false
	}
	for i := range len(text) {
		if !isWithin(wordParts, text[i]) {
			return false
		}
	}
	return true
}
