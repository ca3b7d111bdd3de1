package regex_test

import (
	"math"
	"math/rand"
	"slices"
	"strings"
	"testing"

	"colander/api"
	"colander/regex"
)

// P9.3: Check and Groups

func checkTaken(t *testing.T, p api.Pat, want bool) {
	t.Helper()
	e := regex.Check(p)
	if want && e != api.OK || !want && e != api.ErrPat {
		t.Errorf("Check(%s) = %d, want it taken: %v", shown(p), e, want)
	}
	if want {
		return
	}
	if text, e := regex.Text(p); text != "" || e != api.ErrPat {
		t.Errorf("Text(%s) = %q, %d", shown(p), text, e)
	}
	if n, names := regex.Groups(p); n != 0 || len(names) != 0 {
		t.Errorf("Groups(%s) = %d, %q", shown(p), n, names)
	}
}

func TestTreesThatMayBe(t *testing.T) {
	for _, p := range []api.Pat{
		empty, dot, a, char(0), char(greatest), char(0xd7ff), char(0xe000), char(127), char('*'),
		{Kind: api.XEmpty, Ranges: []api.Range{}, Sub: []api.Pat{}}, {Kind: api.XChar, N: 'a', Ranges: []api.Range{}, Sub: []api.Pat{}}, {Kind: api.XSet, Ranges: []api.Range{{From: 1, To: 1}}, Sub: []api.Pat{}},
		set('a', 'a'), notSet('a', 'a'), set(0, greatest), notSet(0, greatest), set(0, 0, 2, 2), set('a', 'c', 'e', 'e'), set(0xd7ff, 0xe000), set(0, 0xd7ff, 0xe000, greatest),
		seq(a, b), seq(empty, empty), seq(seq(a, b), a), alt(a, b), alt(empty, empty), alt(alt(a, b), seq(a, b)), seq(a, b, c, a, b, c),
		star(a), star(empty), star(begin), star(star(a)), star(look(a)), rep(0, 0, 0, a), rep(0, 1000, 1, a), rep(1000, 1000, 2, a), rep(1000, -1, 0, a), rep(5, 7, 2, a), rep(1, 1, 0, a),
		group(1, "", a), group(1, "x", a), group(1, "_", empty), group(1, "Az_9", empty), group(1, strings.Repeat("a", 32), a), seq(group(1, "", a), group(2, "", b)), group(1, "", group(2, "", a)), seq(group(1, "x", a), group(2, "X", a)), seq(group(1, "x", a), group(2, "", a), group(3, "y", a)),
		look(a), lookNot(a), lookBack(a), lookNotBack(a), atomic(a), atomic(empty),
		seq(group(1, "", a), back(1)), seq(back(1), group(1, "", a)), group(1, "", back(1)), group(1, "x", backTo("x")), seq(backTo("x"), group(1, "x", a)), seq(group(1, "x", a), back(1)), seq(back(2), look(group(1, "", group(2, "", a)))),
		begin, end, start, stop, last, word, notWord,
	} {
		checkTaken(t, p, true)
	}
}

func TestTreesThatMayNotBe(t *testing.T) {
	none := api.Pat{}
	for _, p := range []api.Pat{
		none, leaf(-1), leaf(19), leaf(math.MaxInt), leaf(math.MinInt), star(none), seq(a, none), group(1, "", none), look(leaf(19)),
		char(-1), char(greatest + 1), char(0xd800), char(0xdfff), char(0xdabc), char(math.MaxInt), char(math.MinInt), char(1<<32 + 'a'), seq(a, char(-1)),
		leaf(api.XSet), set('b', 'a'), set('a', 'b', 'c', 'd'), set('a', 'c', 'b', 'd'), set('a', 'a', 'a', 'a'), set('c', 'c', 'a', 'a'), set('a', 'a', 'b', 'b'), set('a', 'z', 'c', 'd'), set(-1, 'a'), set('a', greatest+1), set(0xd800, 0xe000), set(0xd7ff, 0xdfff), set('a', 'c', 'x', 'e'), set(math.MinInt, math.MaxInt), set('a', math.MaxInt, 'b', 'c'), set('a', 'b', math.MaxInt, math.MaxInt), notSet(),
		leaf(api.XSeq), leaf(api.XAlt), seq(a), alt(a), leaf(api.XRepeat), leaf(api.XGroup), leaf(api.XLook), leaf(api.XAtomic), leaf(api.XBack),
		{Kind: api.XRepeat, Sub: []api.Pat{a, b}}, {Kind: api.XGroup, N: 1, Sub: []api.Pat{a, b}}, {Kind: api.XGroup, N: 1}, {Kind: api.XLook, Sub: []api.Pat{a, b}}, {Kind: api.XAtomic, Sub: []api.Pat{a, b}}, {Kind: api.XRepeat, Max: -1},
		rep(-1, 0, 0, a), rep(-1, -1, 0, a), rep(0, -2, 0, a), rep(2, 1, 0, a), rep(1001, -1, 0, a), rep(1001, 1001, 0, a), rep(0, 1001, 0, a), rep(1, 0, 0, a), rep(0, 1, -1, a), rep(0, 1, 3, a), rep(math.MinInt, 1, 0, a), rep(0, math.MaxInt, 0, a), rep(math.MaxInt, -1, 0, a), rep(0, 1, math.MaxInt, a),
		group(0, "", a), group(2, "", a), group(-1, "", a), group(math.MaxInt, "", a), seq(group(2, "", a), group(1, "", a)), seq(group(1, "", a), group(1, "", a)), seq(group(1, "", a), group(3, "", a)), group(2, "", group(1, "", a)), alt(group(1, "", a), group(1, "", b)),
		group(1, "1", a), group(1, "a-b", a), group(1, " ", a), group(1, "é", a), group(1, "aé", a), group(1, "a>", a), group(1, strings.Repeat("a", 33), a), group(1, "\xff", a), group(1, "a\x00", a), seq(group(1, "x", a), group(2, "x", a)), group(1, "x", group(2, "x", a)), seq(group(1, "x", a), group(2, "y", a), group(3, "x", a)),
		back(1), back(0), back(-1), backTo("x"), seq(group(1, "", a), back(2)), seq(group(1, "", a), back(0)), seq(group(1, "", a), back(-1)), seq(group(1, "", a), back(math.MaxInt)), seq(group(1, "x", a), backTo("y")), seq(group(1, "x", a), backTo("X")), seq(group(1, "x", a), api.Pat{Kind: api.XBack, N: 1, Text: "x"}), seq(group(1, "", a), backTo("")), seq(group(1, "", a), backTo("1")), seq(group(1, "x", a), api.Pat{Kind: api.XBack, N: -1, Text: "x"}), seq(back(1), back(1)), seq(group(1, "", a), back(1), back(2)),
	} {
		checkTaken(t, p, false)
		checkTaken(t, seq(a, p), false)
		checkTaken(t, alt(p, a), false)
		checkTaken(t, star(p), false)
		checkTaken(t, lookNotBack(atomic(p)), false)
	}
}

// TestWhatAKindDoesNotName puts something into each field of each kind.
func TestWhatAKindDoesNotName(t *testing.T) {
	fields := map[string]func(p *api.Pat){
		"N":      func(p *api.Pat) { p.N++ },
		"Text":   func(p *api.Pat) { p.Text = "other" },
		"Not":    func(p *api.Pat) { p.Not = !p.Not },
		"Back":   func(p *api.Pat) { p.Back = !p.Back },
		"Min":    func(p *api.Pat) { p.Min++ },
		"Max":    func(p *api.Pat) { p.Max++ },
		"Mode":   func(p *api.Pat) { p.Mode = api.ModeSure - p.Mode },
		"Ranges": func(p *api.Pat) { p.Ranges = append(slices.Clone(p.Ranges), api.Range{From: 1000, To: 1001}) },
		"Sub":    func(p *api.Pat) { p.Sub = append(slices.Clone(p.Sub), a) },
	}
	for _, x := range []struct {
		p     api.Pat
		named string // what else it may have
	}{
		{empty, ""}, {a, "N"}, {dot, ""}, {set('a', 'b'), "Not Ranges"}, {seq(a, b), "Sub"}, {alt(a, b), "Sub"}, {rep(1, 1, 0, a), "Max Mode"}, {rep(1, 2, 1, a), "Min Max Mode"},
		{group(1, "", a), "Text"}, {group(1, "x", a), "Text"}, {look(a), "Not Back"}, {atomic(a), ""}, {seq(group(1, "", a), group(2, "", a)), "Sub"},
		{begin, ""}, {end, ""}, {start, ""}, {stop, ""}, {last, ""}, {word, ""}, {notWord, ""},
	} {
		checkTaken(t, x.p, true)
		for name, change := range fields {
			p := apart(x.p)
			change(&p)
			checkTaken(t, p, strings.Contains(" "+x.named+" ", " "+name+" "))
		}
	}
	for name, change := range fields {
		p := back(1)
		change(&p)
		checkTaken(t, seq(group(1, "", a), group(2, "", a), p), name == "N")
		p = backTo("x")
		change(&p)
		checkTaken(t, seq(group(1, "other", a), group(2, "x", a), p), name == "Text")
		p = a
		change(&p)
		checkTaken(t, lookBack(seq(b, p)), name == "N")
	}
}

// deep is a leaf below so many levels; each of these is made by wrap.
func deep(levels int, inner api.Pat, wrap func(p api.Pat) api.Pat) api.Pat {
	for range levels {
		inner = wrap(inner)
	}
	return inner
}

func TestLevels(t *testing.T) {
	second := func(p api.Pat) api.Pat { return seq(a, p) }
	for _, wrap := range []func(p api.Pat) api.Pat{star, atomic, look, second, func(p api.Pat) api.Pat { return alt(p, b) }} {
		if e := regex.Check(deep(999, a, wrap)); e != api.OK {
			t.Error("1000 levels", e)
		}
		for _, n := range []int{1000, 1001, 2000, 50000} {
			if e := regex.Check(deep(n, a, wrap)); e != api.ErrPat {
				t.Error("more than 1000 levels", n, e)
			}
		}
	}
	tall := seq(deep(998, set('a', 'a'), atomic), deep(998, group(1, "", a), second))
	if e := regex.Check(tall); e != api.ErrPat {
		t.Error("1001 levels on one side", e)
	}
	if n, names := regex.Groups(deep(998, group(1, "x", a), atomic)); n != 1 || !slices.Equal(names, []string{"x"}) {
		t.Error("a group deep within", n, names)
	}
	endless := []api.Pat{{Kind: api.XSeq}, {Kind: api.XAlt}}
	endless[0].Sub, endless[1].Sub = endless, endless
	checkEnds := regex.Check(endless[0])
	if checkEnds != api.ErrPat {
		t.Error("a tree without an end", checkEnds)
	}
}

func TestGroups(t *testing.T) {
	hundred := seq(groups(100)...)
	if n, names := regex.Groups(hundred); n != 100 || !slices.Equal(names, make([]string, 100)) {
		t.Error("100 groups", n, names)
	}
	checkTaken(t, hundred, true)
	checkTaken(t, seq(groups(101)...), false)
	for _, x := range []struct {
		p    api.Pat
		want []string
	}{
		{empty, nil}, {a, nil}, {seq(a, star(b)), nil}, {group(1, "", a), []string{""}}, {group(1, "x", a), []string{"x"}},
		{seq(group(1, "x", group(2, "", a)), alt(a, look(group(3, "y", a)))), []string{"x", "", "y"}},
		{star(lookNotBack(seq(atomic(group(1, "b", a)), group(2, "a", back(1)), backTo("a")))), []string{"b", "a"}},
	} {
		before := apart(x.p)
		n, names := regex.Groups(x.p)
		if n != len(x.want) || !slices.Equal(names, x.want) {
			t.Errorf("Groups(%s) = %d, %q, want %q", shown(x.p), n, names, x.want)
		}
		for i, name := range names {
			if isPart(name, nameOf(x.p, i+1)) {
				t.Errorf("Groups(%s) hands out the name's own memory", shown(x.p))
			}
		}
		if !same(before, x.p) {
			t.Errorf("Groups changed %s", shown(before))
		}
	}
}

// nameOf answers the name of a group, as it stands in the tree.
func nameOf(p api.Pat, n int) string {
	if p.Kind == api.XGroup && p.N == n {
		return p.Text
	}
	for _, part := range p.Sub {
		if name := nameOf(part, n); name != "" {
			return name
		}
	}
	return ""
}

// mayBe is what Check has to answer: each node is as one that is made anew of what its kind names alone, and the rest holds.
func mayBe(p api.Pat) bool {
	var names []string
	var nodes []api.Pat
	var walk func(p api.Pat, level int) bool
	walk = func(p api.Pat, level int) bool {
		nodes = append(nodes, p)
		if p.Kind == api.XGroup {
			names = append(names, p.Text)
			if p.N != len(names) || p.N > 100 || p.Text != "" && (!wholly(nameForm).MatchString(p.Text) || slices.Contains(names[:p.N-1], p.Text)) {
				return false
			}
		}
		return level <= 1000 && isLikeAnew(p) && !slices.ContainsFunc(p.Sub, func(part api.Pat) bool { return !walk(part, level+1) })
	}
	if !walk(p, 1) {
		return false
	}
	return !slices.ContainsFunc(nodes, func(p api.Pat) bool {
		return p.Kind == api.XBack && (p.Text == "" && (p.N < 1 || p.N > len(names)) || p.Text != "" && (p.N != 0 || !slices.Contains(names, p.Text)))
	})
}

func isLikeAnew(p api.Pat) bool {
	inner := api.Pat{}
	if len(p.Sub) > 0 {
		inner = p.Sub[0]
	}
	isPoint := func(n int) bool { return n >= 0 && n < 0xd800 || n > 0xdfff && n <= greatest }
	switch p.Kind {
	case api.XChar:
		return isPoint(p.N) && same(p, char(p.N))
	case api.XSet:
		for i, r := range p.Ranges {
			if !isPoint(r.From) || !isPoint(r.To) || r.To < r.From || i > 0 && r.From-1 <= p.Ranges[i-1].To {
				return false
			}
		}
		return len(p.Ranges) > 0 && same(p, api.Pat{Kind: api.XSet, Not: p.Not, Ranges: p.Ranges})
	case api.XSeq, api.XAlt:
		return len(p.Sub) > 1 && same(p, api.Pat{Kind: p.Kind, Sub: p.Sub})
	case api.XRepeat:
		return p.Min >= 0 && p.Min <= 1000 && (p.Max == -1 || p.Max >= p.Min && p.Max <= 1000) && p.Mode >= 0 && p.Mode <= 2 && same(p, rep(p.Min, p.Max, p.Mode, inner))
	case api.XGroup:
		return same(p, group(p.N, p.Text, inner))
	case api.XLook:
		return same(p, api.Pat{Kind: api.XLook, Not: p.Not, Back: p.Back, Sub: []api.Pat{inner}})
	case api.XAtomic:
		return same(p, atomic(inner))
	case api.XBack:
		return same(p, api.Pat{Kind: api.XBack, N: p.N, Text: p.Text})
	}
	return p.Kind > 0 && p.Kind <= api.XNotWord && same(p, leaf(p.Kind))
}

func TestSpoiltTreesAgainstTheModel(t *testing.T) {
	r := rand.New(rand.NewSource(93))
	taken, refused := 0, 0
	for range 100000 {
		p := apart(someTree(r, 4))
		for range r.Intn(3) {
			spoilNode(&p, r)
		}
		before := apart(p)
		want := mayBe(p)
		checkTaken(t, p, want)
		if !same(p, before) {
			t.Fatalf("changed: %s, was %s", shown(p), shown(before))
		}
		if want {
			taken++
		} else {
			refused++
		}
	}
	if taken < 10000 || refused < 10000 {
		t.Error(taken, refused)
	}
}

// spoilNode changes one field of a node somewhere in a tree.
func spoilNode(p *api.Pat, r *rand.Rand) {
	for len(p.Sub) > 0 && r.Intn(3) > 0 {
		p = &p.Sub[r.Intn(len(p.Sub))]
	}
	numbers := []int{-2, -1, 0, 1, 2, 3, 'a', 999, 1000, 1001, 0xd7ff, 0xd800, 0xdfff, 0xe000, greatest, greatest + 1}
	n := numbers[r.Intn(len(numbers))]
	switch r.Intn(11) {
	case 0:
		p.Kind = api.PatKind(r.Intn(21) - 1)
	case 1:
		p.N = n
	case 2:
		p.Text = []string{"", "a", "x", "1", "é", "_", strings.Repeat("b", 32), strings.Repeat("b", 33)}[r.Intn(8)]
	case 3:
		p.Not = !p.Not
	case 4:
		p.Back = !p.Back
	case 5:
		p.Min = n
	case 6:
		p.Max = n
	case 7:
		p.Mode = r.Intn(5) - 1
	case 8:
		p.Ranges = append(p.Ranges, api.Range{From: n, To: numbers[r.Intn(len(numbers))]})
	case 9:
		p.Sub = append(p.Sub, a)
	case 10:
		p.Sub = p.Sub[:r.Intn(len(p.Sub)+1)]
	}
}
