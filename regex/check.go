package regex

import (
	"slices"

	"colander/api"
)

// checker looks at the nodes of a tree, one by one.
type checker struct {
	names []string // of the groups so far; an empty one of a group without
	backs []api.Pat
}

// examine gives a tree up that may not be.
func examine(p api.Pat) {
	var c checker
	c.tree(p, 1)
	for _, back := range c.backs {
		must(leadsBack(back, c.names))
	}
}

// must refuses what does not hold.
func must(holds bool) {
	if !holds {
		panic(refusal{})
	}
}

// tree looks at a node that stands on a level, and at what is in it.
func (c *checker) tree(p api.Pat, level int) {
	const most = 1000
	must(level <= most)
	must(isBare(p))
	must(hasItsSub(p))
	c.node(p)
	for _, part := range p.Sub {
		c.tree(part, level+1)
	}
}

// node looks at what a node has by itself.
func (c *checker) node(p api.Pat) {
	switch p.Kind {
	case api.XChar:
		must(isPoint(p.N))
	case api.XSet:
		must(areTidy(p.Ranges))
	case api.XRepeat:
		must(p.Min >= 0 && p.Min <= maxCount)
		must(p.Max == -1 || p.Max >= p.Min && p.Max <= maxCount)
		must(p.Mode == api.ModeGreedy || p.Mode == api.ModeLazy || p.Mode == api.ModeSure)
	case api.XGroup:
		must(p.N == len(c.names)+1 && p.N <= api.MaxGroups)
		must(p.Text == "" || isName(p.Text) && !slices.Contains(c.names, p.Text))
		c.names = append(c.names, p.Text)
	case api.XBack:
		c.backs = append(c.backs, p)
	default:
		must(p.Kind >= api.XEmpty && p.Kind <= api.XNotWord)
	}
}

// isBare tells whether a node has nothing that its kind does not name, but for what is in it.
func isBare(p api.Pat) bool {
	switch p.Kind {
	case api.XChar:
		p.N = 0
	case api.XSet:
		p.Not, p.Ranges = false, nil
	case api.XRepeat:
		p.Min, p.Max, p.Mode = 0, 0, 0
	case api.XGroup, api.XBack:
		p.N, p.Text = 0, ""
	case api.XLook:
		p.Not, p.Back = false, false
	}
	return p.N == 0 && p.Text == "" && !p.Not && !p.Back && p.Min == 0 && p.Max == 0 && p.Mode == 0 && len(p.Ranges) == 0
}

// hasItsSub tells whether as much is in a node as its kind says.
func hasItsSub(p api.Pat) bool {
	switch p.Kind {
	case api.XSeq, api.XAlt:
		return len(p.Sub) >= 2
	case api.XRepeat, api.XGroup, api.XLook, api.XAtomic:
		return len(p.Sub) == 1
	}
	return len(p.Sub) == 0
}

// areTidy tells whether ranges are such as a set has.
func areTidy(ranges []api.Range) bool {
	for i, r := range ranges {
		if !isPoint(r.From) || !isPoint(r.To) || r.From > r.To || i > 0 && r.From <= ranges[i-1].To+1 {
			return false
		}
	}
	return len(ranges) > 0
}
