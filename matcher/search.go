package matcher

import (
	"slices"

	"colander/api"
	"colander/regex"
)

// search is a search for a pattern on its way.
type search struct {
	pattern *api.Pat
	names   []string // of the pattern's groups
	text    text
	rules   api.Rules
	fuel    int
	steps   int
	groups  []api.Span // what the groups have
	had     []former   // what groups had ahead of that, the latest at last
}

// former is what a group had, until it was given something else.
type former struct {
	index int
	span  api.Span
}

func newSearch(p api.Pat, within string, r api.Rules, fuel int) *search {
	count, names := regex.Groups(p)
	nothing := slices.Repeat([]api.Span{{From: -1, To: -1}}, count)
	return &search{pattern: &p, names: names, text: newText(within, r.Fold), rules: r, fuel: fuel, groups: nothing}
}

// all answers the first hit, or all, one behind the other.
func (s *search) all() []api.Hit {
	var hits []api.Hit
	for from := 0; from <= s.text.count(); {
		hit, found := s.find(from)
		if !found {
			break
		}
		hits = append(hits, hit)
		if !s.rules.Global {
			break
		}
		from = hit.At.To
		if hit.At.From == hit.At.To { // it would be found again
			from++
		}
	}
	return hits
}

// find answers the first hit from a place on.
func (s *search) find(from int) (api.Hit, bool) {
	for at := from; at <= s.text.count(); at++ {
		if hit, found := s.hitAt(at); found {
			return hit, true
		}
	}
	return api.Hit{}, false
}

// hitAt answers the hit that begins at a place.
func (s *search) hitAt(from int) (hit api.Hit, found bool) {
	s.ask(s.pattern, from, func(to int) bool {
		if s.rules.Full && to == from || found && to <= hit.At.To {
			return false
		}
		hit.At = api.Span{From: from, To: to}
		hit.Groups = append(hit.Groups[:0], s.groups...)
		found = true
		return !s.rules.Longest
	})
	s.takeBack(0)
	return hit, found
}

// set gives a group something, until that is taken back.
func (s *search) set(n int, span api.Span) {
	s.had = append(s.had, former{n - 1, s.groups[n-1]})
	s.groups[n-1] = span
}

// takeBack gives groups what they had when had was that long.
func (s *search) takeBack(length int) {
	for _, f := range slices.Backward(s.had[length:]) {
		s.groups[f.index] = f.span
	}
	s.had = s.had[:length]
}

// spanOf answers what the group has to which an XBack leads.
func (s *search) spanOf(p *api.Pat) api.Span {
	if p.Text != "" {
		return s.groups[slices.Index(s.names, p.Text)]
	}
	return s.groups[p.N-1]
}
