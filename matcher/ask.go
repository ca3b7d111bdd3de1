package matcher

import "colander/api"

// behind is what comes behind a node: it is told a place that the node answers, and answers whether it is content with it.
type behind func(at int) bool

// ask asks a node at a place. It tells whether what comes behind was content with a place that the node answered; if not, groups have what they had.
func (s *search) ask(p *api.Pat, at int, then behind) bool {
	if s.steps == s.fuel {
		panic(noFuel{})
	}
	s.steps++
	switch p.Kind {
	case api.XChar, api.XAny, api.XSet:
		return s.isOne(p, at) && then(at+1)
	case api.XSeq:
		return s.row(p.Sub, at, then)
	case api.XAlt:
		return s.choice(p.Sub, at, then)
	case api.XRepeat:
		return s.repeat(p, at, then)
	case api.XGroup:
		return s.group(p, at, then)
	case api.XLook:
		return s.look(p, at, then)
	case api.XAtomic:
		return s.first(func(then behind) bool { return s.ask(&p.Sub[0], at, then) }, then)
	case api.XBack:
		to, same := s.text.again(s.spanOf(p), at)
		return same && then(to)
	}
	return s.isPlace(p.Kind, at) && then(at)
}

// row asks nodes one behind the other.
func (s *search) row(nodes []api.Pat, at int, then behind) bool {
	if len(nodes) == 1 {
		return s.ask(&nodes[0], at, then)
	}
	return s.ask(&nodes[0], at, func(to int) bool { return s.row(nodes[1:], to, then) })
}

// choice asks nodes one by one at the same place.
func (s *search) choice(nodes []api.Pat, at int, then behind) bool {
	for i := range nodes {
		if s.ask(&nodes[i], at, then) {
			return true
		}
	}
	return false
}

func (s *search) repeat(p *api.Pat, at int, then behind) bool {
	if p.Mode == api.ModeSure {
		return s.first(func(then behind) bool { return s.rounds(p, 0, at, then) }, then)
	}
	return s.rounds(p, 0, at, then)
}

// rounds goes on with an XRepeat, at a place behind n rounds.
func (s *search) rounds(p *api.Pat, n, at int, then behind) bool {
	enough := n >= p.Min
	switch {
	case n == p.Max:
		return then(at)
	case p.Mode == api.ModeLazy && enough && then(at):
		return true
	}
	oneMore := s.ask(&p.Sub[0], at, func(to int) bool {
		if enough && to == at { // it would go round without end
			return false
		}
		return s.rounds(p, n+1, to, then)
	})
	return oneMore || p.Mode != api.ModeLazy && enough && then(at)
}

func (s *search) group(p *api.Pat, from int, then behind) bool {
	return s.ask(&p.Sub[0], from, func(to int) bool {
		length := len(s.had)
		s.set(p.N, api.Span{From: from, To: to})
		return then(to) || s.giveUp(length)
	})
}

// first goes on with the first place alone that a way answers; groups keep what they had there.
func (s *search) first(way func(then behind) bool, then behind) bool {
	length, place := len(s.had), 0
	found := way(func(to int) bool {
		place = to
		return true
	})
	return found && then(place) || s.giveUp(length)
}

// look goes on at the same place, if what is looked for stands there, or, with Not, does not.
func (s *search) look(p *api.Pat, at int, then behind) bool {
	length := len(s.had)
	return s.stands(p, at) != p.Not && then(at) || s.giveUp(length)
}

// stands tells whether what an XLook looks for begins at a place, or, with Back, ends there; groups keep what its first way had.
func (s *search) stands(p *api.Pat, at int) bool {
	if !p.Back {
		return s.ask(&p.Sub[0], at, func(int) bool { return true })
	}
	for from := at; from >= 0; from-- {
		if s.ask(&p.Sub[0], from, func(to int) bool { return to == at }) {
			return true
		}
	}
	return false
}

// giveUp gives a way up: groups have what they had when had was that long.
func (s *search) giveUp(length int) bool {
	s.takeBack(length)
	return false
}
