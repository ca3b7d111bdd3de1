package regex

import (
	"strconv"
	"strings"

	"colander/api"
	"colander/runes"
)

// escape reads what begins with a backslash outside of sets.
func (s *source) escape() api.Pat {
	if ranges := s.class(); ranges != nil {
		return api.Pat{Kind: api.XSet, Ranges: ranges}
	}
	start := s.at
	s.expect(`\`)
	switch {
	case !s.isAt("0") && s.isAtOneOf(digits):
		return s.backTo(start, api.Pat{N: s.groupNumber()})
	case s.take("k"):
		s.expect("<")
		return s.backTo(start, api.Pat{Text: s.name()})
	}
	return api.Pat{Kind: api.XChar, N: s.escaped(start)}
}

// backTo makes an XBack of what says its group, and keeps it until all groups are known.
func (s *source) backTo(start int, p api.Pat) api.Pat {
	p.Kind = api.XBack
	s.backs = append(s.backs, back{start, p})
	return p
}

func (s *source) groupNumber() int {
	start := s.at
	for s.isAtOneOf(digits) {
		s.at++
	}
	n, _ := strconv.Atoi(s.text[start:s.at]) // of too many digits the greatest number, which no group has
	return n
}

// escaped reads what is behind the backslash at start, and answers the code point for which it stands.
func (s *source) escaped(start int) int {
	const letters, points = "ntrfvae", "\n\t\r\f\v\a\x1b"
	if s.isAtEnd() {
		panic(refusal{s.at})
	}
	if i := strings.IndexByte(letters, s.text[s.at]); i >= 0 {
		s.at++
		return int(points[i])
	}
	switch {
	case s.take("x{"):
		n := s.hex(1, 8)
		s.expect("}")
		return pointOr(n, start)
	case s.take("x"):
		return s.hex(1, 2)
	case s.take("u"):
		return pointOr(s.hex(4, 4), start)
	case s.isAtOneOf(lettersAndDigits):
		panic(refusal{s.at})
	}
	return s.point()
}

// pointOr answers a number that is a code point; another one is refused at a byte.
func pointOr(n int, at int) int {
	if !isPoint(n) {
		panic(refusal{at})
	}
	return n
}

func isPoint(n int) bool {
	_, code := runes.Of([]int{n})
	return code == api.OK
}

// hex reads so many digits of 16 at least, and so many at most.
func (s *source) hex(least, most int) int {
	start := s.at
	for s.at < start+most && s.isAtOneOf(hexDigits) {
		s.at++
	}
	if s.at < start+least {
		panic(refusal{s.at})
	}
	n, _ := strconv.ParseInt(s.text[start:s.at], 16, 64)
	return int(n)
}
