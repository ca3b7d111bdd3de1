package regex

import (
	"strconv"
	"strings"

	"colander/api"
)

// repeated reads the repeat behind an atom, if one stands there.
func (s *source) repeated(atom api.Pat) api.Pat {
	s.skip()
	least, most, bySign := s.repeatSign()
	byCounts := false
	if !bySign {
		least, most, byCounts = s.counts()
	}
	if !bySign && !byCounts {
		return atom
	}
	p := api.Pat{Kind: api.XRepeat, Min: least, Max: most, Sub: []api.Pat{atom}}
	switch {
	case s.take("?"):
		p.Mode = api.ModeLazy
	case bySign && s.take("+"):
		p.Mode = api.ModeSure
	}
	return p
}

// repeatSign reads a sign that says how often.
func (s *source) repeatSign() (least, most int, ok bool) {
	switch {
	case s.take("*"):
		return 0, -1, true
	case s.take("+"):
		return 1, -1, true
	case s.take("?"):
		return 0, 1, true
	}
	return 0, 0, false
}

// counts reads braces that say how often; a { that does not begin such ones is left where it stands.
func (s *source) counts() (least, most int, ok bool) {
	start := s.at
	if !s.isAt("{") {
		return 0, 0, false
	}
	inner, _, closed := strings.Cut(s.text[start+1:], "}")
	if !closed {
		return 0, 0, false
	}
	least, most, ok = countsOf(inner)
	if !ok {
		return 0, 0, false
	}
	if max(least, most) > maxCount || most >= 0 && most < least {
		panic(refusal{start})
	}
	s.at += len("{") + len(inner) + len("}")
	return least, most, true
}

// countsOf answers the counts that a text says, and whether it says some.
func countsOf(text string) (least, most int, ok bool) {
	first, second, two := strings.Cut(text, ",")
	if !two {
		second = first
	}
	if !isCount(first) || !isCount(second) || first == "" && second == "" {
		return 0, 0, false
	}
	most = -1
	if first != "" {
		least, _ = strconv.Atoi(first)
	}
	if second != "" {
		most, _ = strconv.Atoi(second)
	}
	return least, most, true
}

// isCount tells whether a text is a count, or is left out.
func isCount(text string) bool {
	const longest = 4
	for i := range len(text) {
		if !isWithin(digits, text[i]) {
			return false
		}
	}
	return len(text) <= longest
}
