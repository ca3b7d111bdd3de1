package regex_test

import (
	"fmt"
	"strings"

	"colander/api"
	"colander/sample"
)

// What the tests of several packages have in common.
var same, apart = sample.SamePat, sample.ApartPat

// How the tests make trees.

func leaf(kind api.PatKind) api.Pat { return api.Pat{Kind: kind} }

func char(n int) api.Pat { return api.Pat{Kind: api.XChar, N: n} }

// chars is a sequence of a text's code points.
func chars(text string) api.Pat {
	var out []api.Pat
	for _, r := range text {
		out = append(out, char(int(r)))
	}
	return seq(out...)
}

// set is one of ranges, given by their first and last code points, in pairs.
func set(pairs ...int) api.Pat {
	p := api.Pat{Kind: api.XSet}
	for i := 0; i < len(pairs); i += 2 {
		p.Ranges = append(p.Ranges, api.Range{From: pairs[i], To: pairs[i+1]})
	}
	return p
}

func notSet(pairs ...int) api.Pat {
	p := set(pairs...)
	p.Not = true
	return p
}

func seq(l ...api.Pat) api.Pat { return api.Pat{Kind: api.XSeq, Sub: l} }

func alt(l ...api.Pat) api.Pat { return api.Pat{Kind: api.XAlt, Sub: l} }

func rep(least, most, mode int, p api.Pat) api.Pat {
	return api.Pat{Kind: api.XRepeat, Min: least, Max: most, Mode: mode, Sub: []api.Pat{p}}
}

// star is p so often as may be.
func star(p api.Pat) api.Pat { return rep(0, -1, api.ModeGreedy, p) }

func group(n int, name string, p api.Pat) api.Pat {
	return api.Pat{Kind: api.XGroup, N: n, Text: name, Sub: []api.Pat{p}}
}

func look(p api.Pat) api.Pat { return api.Pat{Kind: api.XLook, Sub: []api.Pat{p}} }

func lookNot(p api.Pat) api.Pat { return api.Pat{Kind: api.XLook, Not: true, Sub: []api.Pat{p}} }

func lookBack(p api.Pat) api.Pat { return api.Pat{Kind: api.XLook, Back: true, Sub: []api.Pat{p}} }

func lookNotBack(p api.Pat) api.Pat {
	return api.Pat{Kind: api.XLook, Not: true, Back: true, Sub: []api.Pat{p}}
}

func atomic(p api.Pat) api.Pat { return api.Pat{Kind: api.XAtomic, Sub: []api.Pat{p}} }

func back(n int) api.Pat { return api.Pat{Kind: api.XBack, N: n} }

func backTo(name string) api.Pat { return api.Pat{Kind: api.XBack, Text: name} }

var (
	empty    = leaf(api.XEmpty)
	dot      = leaf(api.XAny)
	begin    = leaf(api.XBegin)
	end      = leaf(api.XEnd)
	start    = leaf(api.XStart)
	stop     = leaf(api.XStop)
	last     = leaf(api.XLast)
	word     = leaf(api.XWord)
	notWord  = leaf(api.XNotWord)
	a, b, c  = char('a'), char('b'), char('c')
	places   = []api.Pat{begin, end, start, stop, last, word, notWord}
	greatest = 1114111
)

// shown writes a tree for people: its nodes' kinds and what they have.
func shown(p api.Pat) string {
	text := shownWhole(p)
	const most = 600
	if len(text) > most {
		return text[:most] + ".."
	}
	return text
}

func shownWhole(p api.Pat) string {
	names := []string{"none", "empty", "char", "any", "set", "seq", "alt", "repeat", "group", "look", "atomic", "back", "begin", "end", "start", "stop", "last", "word", "notword"}
	out := fmt.Sprint("kind ", int(p.Kind))
	if p.Kind >= 0 && int(p.Kind) < len(names) {
		out = names[p.Kind]
	}
	if p.N != 0 {
		out += fmt.Sprint(" ", p.N)
		if p.Kind == api.XChar {
			out += fmt.Sprintf(" %q", rune(p.N))
		}
	}
	if p.Text != "" {
		out += fmt.Sprintf(" %q", p.Text)
	}
	if p.Not {
		out += " not"
	}
	if p.Back {
		out += " back"
	}
	if p.Min != 0 || p.Max != 0 || p.Mode != 0 {
		out += fmt.Sprint(" ", p.Min, " to ", p.Max, " mode ", p.Mode)
	}
	for _, r := range p.Ranges {
		out += fmt.Sprint(" ", r.From, "-", r.To)
	}
	if len(p.Sub) == 0 {
		return out
	}
	var parts []string
	for _, part := range p.Sub {
		parts = append(parts, shownWhole(part))
	}
	return out + "(" + strings.Join(parts, ", ") + ")"
}
