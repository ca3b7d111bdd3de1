package regex_test

import (
	"math/rand"
	"strings"
	"testing"

	"colander/api"
	"colander/regex"
)

// P9.4

// someTree answers a tree that may be, of at most so many levels below.
func someTree(r *rand.Rand, levels int) api.Pat {
	p := someNode(r, levels)
	var count int
	var number func(p *api.Pat)
	number = func(p *api.Pat) {
		if p.Kind == api.XGroup {
			count++
			p.N = count
			p.Text = ""
			if r.Intn(2) == 0 {
				p.Text = nameFor(count)
			}
		}
		for i := range p.Sub {
			number(&p.Sub[i])
		}
	}
	number(&p)
	var lead func(p *api.Pat)
	lead = func(p *api.Pat) {
		if p.Kind == api.XBack {
			*p = someBack(r, count)
		}
		for i := range p.Sub {
			lead(&p.Sub[i])
		}
	}
	named := map[string]bool{}
	for i := range count {
		named[nameOf(p, i+1)] = true
	}
	lead(&p)
	dropBacks(&p, named)
	return p
}

// nameFor answers a name that no group with another number has.
func nameFor(n int) string {
	return []string{"x", "_", "Name", "a9_"}[n%4] + strings.Repeat("z", n/4)
}

// someBack leads back to one of count groups, by its number or by what may be its name; without groups it is a code point.
func someBack(r *rand.Rand, count int) api.Pat {
	switch {
	case count == 0:
		return char('1')
	case r.Intn(2) == 0:
		return back(1 + r.Intn(count))
	}
	return backTo(nameFor(1 + r.Intn(count)))
}

// dropBacks turns what leads to a name that no group has into a code point.
func dropBacks(p *api.Pat, named map[string]bool) {
	if p.Kind == api.XBack && p.Text != "" && !named[p.Text] {
		*p = char('2')
	}
	for i := range p.Sub {
		dropBacks(&p.Sub[i], named)
	}
}

func someNode(r *rand.Rand, levels int) api.Pat {
	n := 18
	if levels == 0 {
		n = 9
	}
	inner := func() api.Pat { return someNode(r, levels-1) }
	switch r.Intn(n) {
	case 0:
		return empty
	case 1:
		return dot
	case 2, 3:
		return someSet(r)
	case 4:
		return places[r.Intn(len(places))]
	case 5:
		return back(1)
	case 6, 7, 8:
		return char(somePoint(r))
	case 9, 10, 11:
		return seq(someRow(r, levels-1)...)
	case 12, 13:
		return alt(someRow(r, levels-1)...)
	case 14:
		return someRepeat(r, inner())
	case 15:
		return group(0, "", inner())
	case 16:
		return atomic(inner())
	}
	return api.Pat{Kind: api.XLook, Not: r.Intn(2) == 0, Back: r.Intn(2) == 0, Sub: []api.Pat{inner()}}
}

func someRow(r *rand.Rand, levels int) []api.Pat {
	var out []api.Pat
	for range 2 + r.Intn(3) {
		out = append(out, someNode(r, levels))
	}
	return out
}

func someRepeat(r *rand.Rand, p api.Pat) api.Pat {
	counts := [][2]int{{0, -1}, {1, -1}, {0, 1}, {0, 0}, {1, 1}, {2, -1}, {0, 7}, {3, 12}, {1000, 1000}, {999, -1}}
	i := r.Intn(len(counts))
	mode := r.Intn(2)
	if i < 3 {
		mode = r.Intn(3)
	}
	return rep(counts[i][0], counts[i][1], mode, p)
}

func somePoint(r *rand.Rand) int {
	switch r.Intn(4) {
	case 0:
		return r.Intn(128)
	case 1:
		return int(`*+?|()[]{}\^$.#-&:,<>=! 0123456789`[r.Intn(34)])
	case 2:
		return []int{'a', 'b', 'é', '€', '😀', 0, 10, 31, 127, 128, 0xd7ff, 0xe000, 0xfffd, 0xffff, 0x10000, greatest}[r.Intn(16)]
	}
	return 'a' + r.Intn(26)
}

func someSet(r *rand.Rand) api.Pat {
	p := api.Pat{Kind: api.XSet, Not: r.Intn(2) == 0}
	next := r.Intn(60)
	for range 1 + r.Intn(4) {
		from := next + r.Intn(12)
		to := from + r.Intn(3)*r.Intn(6)
		p.Ranges = append(p.Ranges, api.Range{From: from, To: to})
		next = to + 2
	}
	return p
}

func TestParseOfTextIsTheTree(t *testing.T) {
	r := rand.New(rand.NewSource(94))
	for range 100000 {
		want := someTree(r, 4)
		if e := regex.Check(want); e != api.OK {
			t.Fatalf("Check(%s) = %d", shown(want), e)
		}
		text, e := regex.Text(want)
		if e != api.OK && len(text) == 0 && size(want) > 200 {
			continue // it is too long
		}
		p, at, fault := regex.Parse(text, false)
		if e != api.OK || fault != api.OK || at != 0 || !same(p, want) {
			t.Fatalf("Text(%s) = %q, %d, and Parse of it = %s, %d, %d", shown(want), text, e, shown(p), at, fault)
		}
	}
}

// size tells how many nodes a tree has.
func size(p api.Pat) int {
	n := 1
	for _, part := range p.Sub {
		n += size(part)
	}
	return n
}

func TestTextsOfAllCodePoints(t *testing.T) {
	for n := range greatest + 1 {
		if n >= 0xd800 && n <= 0xdfff || n > 3000 && n%97 > 0 && n < greatest-100 {
			continue
		}
		for _, want := range []api.Pat{char(n), seq(a, star(char(n)), char(n)), set(n, n), notSet(n, min(n, 0xd7f0)+max(n-0xd7f0, 0))} {
			text, e := regex.Text(want)
			if p, _, fault := regex.Parse(text, false); e != api.OK || fault != api.OK || !same(p, want) {
				t.Fatalf("Text(%s) = %q, %d; Parse of it = %s, %d", shown(want), text, e, shown(p), fault)
			}
		}
	}
}

func TestTreesOfParseMayBe(t *testing.T) {
	r := rand.New(rand.NewSource(95))
	taken := 0
	for range 200000 {
		s := somePattern(r)
		p, _, e := regex.Parse(s, r.Intn(2) == 0)
		if e != api.OK {
			continue
		}
		taken++
		if e := regex.Check(p); e != api.OK {
			t.Fatalf("Check of Parse(%q) = %d: %s", s, e, shown(p))
		}
		text, e := regex.Text(p)
		if q, _, fault := regex.Parse(text, false); e != api.OK || fault != api.OK || !same(p, q) {
			t.Fatalf("Text of Parse(%q) = %q, %d; Parse of it = %s, %d", s, text, e, shown(q), fault)
		}
	}
	if taken < 10000 {
		t.Error("few patterns were taken:", taken)
	}
	// as deep as may be, with as many nodes a parenthesis as may be
	s := strings.Repeat("(b|a", 99) + "(b|ac*" + strings.Repeat(")*", 100)
	if p, at, e := regex.Parse(s, false); e != api.OK || regex.Check(p) != api.OK {
		t.Error(at, e)
	}
}

// tokensOf writes a tree as tokens between which blanks and comments may stand. Ones that hang together within a repeat, an escape or a parenthesis' head are one.
func tokensOf(p api.Pat) []string {
	if len(p.Sub) == 0 {
		text, _ := regex.Text(unhooked(p))
		if p.Kind == api.XBack {
			text = strings.TrimPrefix(text, "(?<"+p.Text+">)")
		}
		if p.Kind == api.XBack && p.Text == "" {
			text = text[strings.LastIndex(text, `\`):]
		}
		if text == " " {
			text = `\ `
		}
		return []string{"(?:", text, ")"}
	}
	text, _ := regex.Text(unhooked(p))
	head, tail, _ := strings.Cut(text, "a")
	out := []string{"(?:"}
	if p.Kind != api.XSeq && p.Kind != api.XAlt {
		if head != "" {
			out = append(out, head)
		}
		out = append(out, tokensOf(p.Sub[0])...)
		return append(out, tail, ")")
	}
	for i, part := range p.Sub {
		if i > 0 && p.Kind == api.XAlt {
			out = append(out, "|")
		}
		out = append(out, tokensOf(part)...)
	}
	return append(out, ")")
}

// unhooked answers a node that is as p, with as many groups ahead as it needs, and an a for what is in it.
func unhooked(p api.Pat) api.Pat {
	switch {
	case p.Kind == api.XBack && p.Text != "":
		return seq(group(1, p.Text, empty), p)
	case p.Kind == api.XBack:
		return seq(append(groups(p.N), p)...)
	case p.Kind == api.XGroup:
		p.N = 1
		if p.Text != "" {
			p.Text = strings.ToUpper(p.Text) // no a in it
		}
		p.Sub = []api.Pat{a}
	case p.Kind == api.XSeq || p.Kind == api.XAlt:
		return a
	case len(p.Sub) > 0:
		p.Sub = []api.Pat{a}
	}
	return p
}

// upper is p with the names of its groups in capitals, as tokensOf writes them.
func upper(p api.Pat) api.Pat {
	p = apart(p)
	var walk func(p *api.Pat)
	walk = func(p *api.Pat) {
		p.Text = strings.ToUpper(p.Text)
		for i := range p.Sub {
			walk(&p.Sub[i])
		}
	}
	walk(&p)
	return p
}

func someBlanks(r *rand.Rand) string {
	blanks := []string{" ", "\t", "\n", "\v", "\f", "\r", "#\n", "# a\n", "#(*[\\\n", "##é\xff\n", "  \n"}
	out := ""
	for range r.Intn(3) {
		out += blanks[r.Intn(len(blanks))]
	}
	return out
}

func TestBlanksAndCommentsTurnNothing(t *testing.T) {
	r := rand.New(rand.NewSource(96))
	for range 30000 {
		want := upper(someTree(r, 3))
		tokens := tokensOf(want)
		plain := strings.Join(tokens, "")
		if len(plain) > 2000 || strings.Count(plain, "(") > 90 {
			continue
		}
		spread := ""
		for _, token := range tokens {
			spread += someBlanks(r) + token
		}
		spread += someBlanks(r)
		if r.Intn(2) == 0 {
			spread += "# to the end (*["
		}
		for _, s := range []string{plain, spread} {
			if p, at, e := regex.Parse(s, true); e != api.OK || at != 0 || !same(p, want) {
				t.Fatalf("Parse(%q, true) = %s, %d, %d, want %s", s, shown(p), at, e, shown(want))
			}
		}
		if p, at, e := regex.Parse(plain, false); e != api.OK || at != 0 || !same(p, want) {
			t.Fatalf("Parse(%q, false) = %s, %d, %d, want %s", plain, shown(p), at, e, shown(want))
		}
	}
}
