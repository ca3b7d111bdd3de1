package regex

import (
	"slices"
	"strings"

	"colander/api"
)

// pattern reads sequences with | between, up to a ) or the end.
func (s *source) pattern() api.Pat {
	sequences := []api.Pat{s.sequence()}
	for s.take("|") {
		sequences = append(sequences, s.sequence())
	}
	return joined(api.XAlt, sequences)
}

// sequence reads pieces up to a |, a ) or the end.
func (s *source) sequence() api.Pat {
	var pieces []api.Pat
	for {
		s.skip()
		switch {
		case s.isAtEnd() || s.isAt("|") || s.isAt(")"):
			return joined(api.XSeq, pieces)
		case s.isAt("(?#"):
			s.skipComment()
		default:
			pieces = append(pieces, s.piece())
		}
	}
}

// joined makes one node of several; one alone stays itself.
func joined(kind api.PatKind, parts []api.Pat) api.Pat {
	switch len(parts) {
	case 0:
		return api.Pat{Kind: api.XEmpty}
	case 1:
		return parts[0]
	}
	return api.Pat{Kind: kind, Sub: parts}
}

// skipComment goes past a (?# and the first ) behind it.
func (s *source) skipComment() {
	for !s.isAtEnd() && !s.isAt(")") {
		s.at++
	}
	s.expect(")")
}

// piece reads an atom with its repeat, or a place, behind which none may stand.
func (s *source) piece() api.Pat {
	start := s.at
	p := s.part()
	// What stands in (?: ) is an atom, a place in it, too.
	if isPlace(p.Kind) && !strings.HasPrefix(s.text[start:], "(?:") {
		return p
	}
	return s.repeated(p)
}

// part reads an atom or a place.
func (s *source) part() api.Pat {
	for kind := api.XAny; kind <= api.XNotWord; kind++ {
		if sign := signOf(kind); sign != "" && s.take(sign) {
			return api.Pat{Kind: kind}
		}
	}
	switch {
	case s.isAt("("):
		return s.parenthesis()
	case s.take("["):
		return s.set()
	case s.isAt(`\`):
		return s.escape()
	case s.isAt("*") || s.isAt("+") || s.isAt("?"):
		panic(refusal{s.at})
	}
	return api.Pat{Kind: api.XChar, N: s.point()}
}

// signOf answers the sign that is the whole of a node of a kind; of other kinds nothing.
func signOf(kind api.PatKind) string {
	switch kind {
	case api.XAny:
		return "."
	case api.XBegin:
		return "^"
	case api.XEnd:
		return "$"
	case api.XStart:
		return `\A`
	case api.XStop:
		return `\z`
	case api.XLast:
		return `\Z`
	case api.XWord:
		return `\b`
	case api.XNotWord:
		return `\B`
	}
	return ""
}

// isPlace tells whether nodes of a kind stand between code points.
func isPlace(kind api.PatKind) bool {
	return kind == api.XLook || kind >= api.XBegin && kind <= api.XNotWord
}

// parenthesis reads from a ( that is no comment's to the ) that closes it.
func (s *source) parenthesis() api.Pat {
	if s.open == maxOpen {
		panic(refusal{s.at})
	}
	s.open++
	p := s.head()
	inner := s.pattern()
	s.expect(")")
	s.open--
	if p.Kind == 0 {
		return inner
	}
	p.Sub = []api.Pat{inner}
	return p
}

// head reads a parenthesis up to the pattern in it, and answers the node that it makes of that; a zero one, where it leaves nothing.
func (s *source) head() api.Pat {
	start := s.at
	s.expect("(")
	switch {
	case s.take("?:"):
		return api.Pat{}
	case s.take("?>"):
		return api.Pat{Kind: api.XAtomic}
	case s.take("?="):
		return api.Pat{Kind: api.XLook}
	case s.take("?!"):
		return api.Pat{Kind: api.XLook, Not: true}
	case s.take("?<="):
		return api.Pat{Kind: api.XLook, Back: true}
	case s.take("?<!"):
		return api.Pat{Kind: api.XLook, Not: true, Back: true}
	case s.take("?<"):
		return s.group(start, true)
	case s.take("?"):
		panic(refusal{s.at})
	}
	return s.group(start, false)
}

// group numbers the group whose ( stands at start, and reads the name of a named one.
func (s *source) group(start int, named bool) api.Pat {
	if len(s.names) == api.MaxGroups {
		panic(refusal{start})
	}
	p := api.Pat{Kind: api.XGroup, N: len(s.names) + 1}
	if named {
		at := s.at
		p.Text = s.name()
		if slices.Contains(s.names, p.Text) {
			panic(refusal{at})
		}
	}
	s.names = append(s.names, p.Text)
	return p
}
