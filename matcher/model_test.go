package matcher_test

import (
	"iter"
	"slices"

	"colander/api"
	"colander/regex"
)

// The tests hold the searches against a model made by the chapter's words: a node that is asked is an iterator of the ways that it answers. A way is a place and what groups have there; none is ever changed.

type way struct {
	at     int
	groups []api.Span
}

// to is a way that goes on at another place.
func (w way) to(at int) way { return way{at, w.groups} }

// with is a way on which a group has something.
func (w way) with(n int, span api.Span) way {
	groups := slices.Clone(w.groups)
	groups[n-1] = span
	return way{w.at, groups}
}

// noSteps is the panic of a model that has no steps left.
type noSteps struct{}

type model struct {
	text    []rune
	rules   api.Rules
	numbers map[string]int // groups' numbers by their names
	count   int            // of groups
	steps   int
	fuel    int
}

func newModel(p api.Pat, s string, r api.Rules, fuel int) *model {
	m := &model{text: []rune(s), rules: r, numbers: map[string]int{}, fuel: fuel}
	m.number(p)
	return m
}

func (m *model) number(p api.Pat) {
	if p.Kind == api.XGroup {
		m.count++
		m.numbers[p.Text] = p.N
	}
	for _, part := range p.Sub {
		m.number(part)
	}
}

// places are the kinds of nodes that are at places alone.
func (m *model) isPlace(kind api.PatKind, at int) bool {
	end := len(m.text)
	isWord := func(i int) bool {
		const parts = "ABCDEFGHIJKLMNOPQRSTUVWXYZabcdefghijklmnopqrstuvwxyz0123456789_"
		return i >= 0 && i < end && slices.Contains([]rune(parts), m.text[i])
	}
	return map[api.PatKind]bool{
		api.XEmpty:   true,
		api.XStart:   at == 0,
		api.XBegin:   at == 0,
		api.XStop:    at == end,
		api.XLast:    at == end || at == end-1 && m.text[at] == 10,
		api.XEnd:     at == end || at == end-1 && m.text[at] == 10,
		api.XWord:    isWord(at-1) != isWord(at),
		api.XNotWord: isWord(at-1) == isWord(at),
	}[kind]
}

// cases answers what counts as a code point.
func (m *model) cases(c rune) []rune {
	switch {
	case m.rules.Fold && c >= 'A' && c <= 'Z':
		return []rune{c, c - 'A' + 'a'}
	case m.rules.Fold && c >= 'a' && c <= 'z':
		return []rune{c, c - 'a' + 'A'}
	}
	return []rune{c}
}

func (m *model) takes(p api.Pat, c rune) bool {
	switch p.Kind {
	case api.XAny:
		return m.rules.Dot || c != 10
	case api.XChar:
		return slices.Contains(m.cases(c), rune(p.N))
	}
	one := slices.ContainsFunc(m.cases(c), func(c rune) bool {
		return slices.ContainsFunc(p.Ranges, func(r api.Range) bool { return rune(r.From) <= c && c <= rune(r.To) })
	})
	return one != p.Not
}

func (m *model) sameText(a, b []rune) bool {
	return slices.EqualFunc(a, b, func(c, d rune) bool { return slices.Contains(m.cases(c), d) })
}

// ask is a node that is asked at the place to which a way has come.
func (m *model) ask(p api.Pat, w way) iter.Seq[way] {
	return func(yield func(way) bool) {
		if m.steps == m.fuel {
			panic(noSteps{})
		}
		m.steps++
		for x := range m.answers(p, w) {
			if !yield(x) {
				return
			}
		}
	}
}

// onlyIf is a way, or nothing.
func onlyIf(is bool, w way) iter.Seq[way] {
	return func(yield func(way) bool) {
		if is {
			yield(w)
		}
	}
}

func (m *model) answers(p api.Pat, w way) iter.Seq[way] {
	switch p.Kind {
	case api.XChar, api.XAny, api.XSet:
		return onlyIf(w.at < len(m.text) && m.takes(p, m.text[w.at]), w.to(w.at+1))
	case api.XSeq:
		return m.row(p.Sub, w)
	case api.XAlt:
		return func(yield func(way) bool) {
			for _, part := range p.Sub {
				for x := range m.ask(part, w) {
					if !yield(x) {
						return
					}
				}
			}
		}
	case api.XRepeat:
		if p.Mode == api.ModeSure {
			return firstOf(m.rounds(p, 0, w))
		}
		return m.rounds(p, 0, w)
	case api.XGroup:
		return func(yield func(way) bool) {
			for x := range m.ask(p.Sub[0], w) {
				if !yield(x.with(p.N, api.Span{From: w.at, To: x.at})) {
					return
				}
			}
		}
	case api.XAtomic:
		return firstOf(m.ask(p.Sub[0], w))
	case api.XLook:
		return m.look(p, w)
	case api.XBack:
		return m.back(p, w)
	}
	return onlyIf(m.isPlace(p.Kind, w.at), w)
}

func (m *model) row(parts []api.Pat, w way) iter.Seq[way] {
	if len(parts) == 0 {
		return onlyIf(true, w)
	}
	last := len(parts) - 1
	return func(yield func(way) bool) {
		for x := range m.row(parts[:last], w) {
			for y := range m.ask(parts[last], x) {
				if !yield(y) {
					return
				}
			}
		}
	}
}

// rounds is what an XRepeat answers behind n rounds.
func (m *model) rounds(p api.Pat, n int, w way) iter.Seq[way] {
	if n == p.Max {
		return onlyIf(true, w)
	}
	more := func(yield func(way) bool) {
		for x := range m.ask(p.Sub[0], w) {
			if x.at == w.at && n >= p.Min {
				continue
			}
			for y := range m.rounds(p, n+1, x) {
				if !yield(y) {
					return
				}
			}
		}
	}
	itself := onlyIf(n >= p.Min, w)
	if p.Mode == api.ModeLazy {
		return oneBehindTheOther(itself, more)
	}
	return oneBehindTheOther(more, itself)
}

func oneBehindTheOther(l ...iter.Seq[way]) iter.Seq[way] {
	return func(yield func(way) bool) {
		for _, ways := range l {
			for w := range ways {
				if !yield(w) {
					return
				}
			}
		}
	}
}

// firstOf is the first way alone.
func firstOf(ways iter.Seq[way]) iter.Seq[way] {
	return func(yield func(way) bool) {
		for w := range ways {
			yield(w)
			return
		}
	}
}

func (m *model) look(p api.Pat, w way) iter.Seq[way] {
	return func(yield func(way) bool) {
		found := m.seen(p, w)
		switch {
		case p.Not && found == nil:
			yield(w)
		case !p.Not && found != nil:
			yield(found.to(w.at))
		}
	}
}

// seen is the first way that an XLook has, or nil.
func (m *model) seen(p api.Pat, w way) *way {
	from := w.at
	if p.Back {
		from = 0
	}
	for at := w.at; at >= from; at-- {
		for x := range m.ask(p.Sub[0], w.to(at)) {
			if !p.Back || x.at == w.at {
				return &x
			}
		}
	}
	return nil
}

func (m *model) back(p api.Pat, w way) iter.Seq[way] {
	n := p.N
	if p.Text != "" {
		n = m.numbers[p.Text]
	}
	span := w.groups[n-1]
	to := w.at + span.To - span.From
	return onlyIf(span.From >= 0 && to <= len(m.text) && m.sameText(m.text[span.From:span.To], m.text[w.at:to]), w.to(to))
}

// hitFrom is the hit that begins at a place.
func (m *model) hitFrom(p api.Pat, from int) (best api.Hit, found bool) {
	none := slices.Repeat([]api.Span{{From: -1, To: -1}}, m.count)
	for w := range m.ask(p, way{from, none}) {
		if m.rules.Full && w.at == from {
			continue
		}
		if !found || w.at > best.At.To {
			best, found = api.Hit{At: api.Span{From: from, To: w.at}, Groups: w.groups}, true
		}
		if !m.rules.Longest {
			break
		}
	}
	return best, found
}

func (m *model) find(p api.Pat, from int) (api.Hit, bool) {
	for at := from; at <= len(m.text); at++ {
		if hit, found := m.hitFrom(p, at); found {
			return hit, true
		}
	}
	return api.Hit{}, false
}

func modelRefuses(p api.Pat, s string, from, fuel int) api.Errno {
	if regex.Check(p) != api.OK {
		return api.ErrPat
	}
	if from < 0 || from > len([]rune(s)) || fuel < 1 || fuel > 200000 {
		return api.ErrArg
	}
	return api.OK
}

// modelAt is what At has to answer.
func modelAt(p api.Pat, s string, from int, r api.Rules, fuel int) (hit api.Hit, found bool, steps int, code api.Errno) {
	if code := modelRefuses(p, s, from, fuel); code != api.OK {
		return api.Hit{}, false, 0, code
	}
	m := newModel(p, s, r, fuel)
	defer func() {
		if why := recover(); why != nil {
			hit, found, steps, code = api.Hit{}, false, fuel, why.(noSteps).code()
		}
	}()
	hit, found = m.find(p, from)
	return hit, found, m.steps, api.OK
}

func (noSteps) code() api.Errno { return api.ErrFuel }

// modelAll is what All has to answer.
func modelAll(p api.Pat, s string, r api.Rules, fuel int) (hits []api.Hit, steps int, code api.Errno) {
	if code := modelRefuses(p, s, 0, fuel); code != api.OK {
		return nil, 0, code
	}
	from := 0
	for from <= len([]rune(s)) {
		hit, found, more, code := modelAt(p, s, from, r, max(fuel-steps, 1))
		if code == api.ErrFuel || steps == fuel {
			return nil, fuel, api.ErrFuel
		}
		steps += more
		if !found {
			break
		}
		hits = append(hits, hit)
		if !r.Global {
			break
		}
		from = max(hit.At.To, hit.At.From+1)
	}
	return hits, steps, api.OK
}
