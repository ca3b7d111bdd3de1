package regex

import (
	"slices"

	"colander/api"
)

// set reads a set behind its [ up to its ].
func (s *source) set() api.Pat {
	p := api.Pat{Kind: api.XSet, Not: s.take("^")}
	for {
		p.Ranges = append(p.Ranges, s.item()...)
		if s.take("]") {
			p.Ranges = tidied(p.Ranges)
			return p
		}
	}
}

// item reads a class, a code point, or two with a - between.
func (s *source) item() []api.Range {
	if s.take("[") {
		return s.posix()
	}
	if ranges := s.class(); ranges != nil {
		return ranges
	}
	start := s.at
	r := api.Range{From: s.one()}
	r.To = r.From
	if s.isAt("-") && !s.isAt("-]") {
		s.expect("-")
		r.To = s.one()
	}
	if r.To < r.From {
		panic(refusal{start})
	}
	return []api.Range{r}
}

// one reads one code point of a set.
func (s *source) one() int {
	start := s.at
	if s.take(`\`) {
		if s.take("b") {
			return '\b'
		}
		return s.escaped(start)
	}
	and := s.isAt("&")
	if s.isAt("[") || s.isAt("]") || and && s.at == s.behindAnd {
		panic(refusal{start})
	}
	n := s.point()
	if and {
		s.behindAnd = s.at
	}
	return n
}

// posix reads a posix class behind its [ up to its ].
func (s *source) posix() []api.Range {
	s.expect(":")
	not := s.take("^")
	ranges := rangesOf(s.posixPairs())
	s.expect(":")
	s.expect("]")
	if not {
		return others(ranges)
	}
	return ranges
}

// posixPairs reads the name of a posix class. The first letter with which none of them goes on is refused.
func (s *source) posixPairs() string {
	left := posixClasses()
	for i := 0; ; i++ {
		left = slices.DeleteFunc(left, func(c class) bool {
			return !s.isAt(c.name[i : i+1])
		})
		if len(left) == 0 {
			panic(refusal{s.at})
		}
		s.at++
		if len(left[0].name) == i+1 { // no name begins another one
			return left[0].pairs
		}
	}
}
