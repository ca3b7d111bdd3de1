package matcher

import (
	"slices"

	"colander/api"
)

// isOne tells whether the code point at a place is one that a node takes.
func (s *search) isOne(p *api.Pat, at int) bool {
	c, ok := s.text.point(at)
	if !ok {
		return false
	}
	switch p.Kind {
	case api.XAny:
		return c != '\n' || s.rules.Dot
	case api.XSet:
		return s.isWithin(p.Ranges, c) != p.Not
	}
	return c == p.N || s.rules.Fold && c == otherCase(p.N)
}

// isWithin tells whether a code point is within ranges, or, where letters of either case are the same, its other case is.
func (s *search) isWithin(ranges []api.Range, c int) bool {
	return isWithin(ranges, c) || s.rules.Fold && isWithin(ranges, otherCase(c))
}

func isWithin(ranges []api.Range, c int) bool {
	_, found := slices.BinarySearchFunc(ranges, c, func(r api.Range, c int) int {
		switch {
		case r.To < c:
			return -1
		case r.From > c:
			return 1
		}
		return 0
	})
	return found
}

// otherCase answers the other case of a letter, and whatever else as it is.
func otherCase(c int) int {
	const between = 'a' - 'A'
	switch {
	case c >= 'A' && c <= 'Z':
		return c + between
	case c >= 'a' && c <= 'z':
		return c - between
	}
	return c
}

// isPlace tells whether a place is of a kind.
func (s *search) isPlace(kind api.PatKind, at int) bool {
	switch kind {
	case api.XStart, api.XBegin:
		return at == 0
	case api.XStop:
		return at == s.text.count()
	case api.XLast, api.XEnd:
		return s.text.isLast(at)
	case api.XWord:
		return s.text.isWordPart(at-1) != s.text.isWordPart(at)
	case api.XNotWord:
		return s.text.isWordPart(at-1) == s.text.isWordPart(at)
	}
	return true // an XEmpty
}
