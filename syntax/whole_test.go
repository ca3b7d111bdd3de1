package syntax_test

import (
	"math"
	"math/rand"
	"runtime/debug"
	"strings"
	"testing"
	"unsafe"

	"colander/api"
	"colander/syntax"
)

// P15.1: Size, Deep, Same and Bare

// anyTrees are trees that may be, and others.
func anyTrees() []api.Node {
	out := oneOfEach()
	for _, k := range kinds() {
		out = append(out, api.Node{Kind: k}, api.Node{Kind: k, Text: "\xff", Num: -1, N: -2, M: 3, Sub: []api.Node{{}, {Sub: []api.Node{{Kind: k}}}, {}}})
	}
	return out
}

func TestSizeAndDeep(t *testing.T) {
	for _, x := range anyTrees() {
		if got, want := syntax.Size(x), len(nodes(x)); got != want {
			t.Errorf("Size(%s) = %d, want %d", shown(x), got, want)
		}
		if got, want := syntax.Deep(x), deepModel(x); got != want {
			t.Errorf("Deep(%s) = %d, want %d", shown(x), got, want)
		}
	}
	for _, w := range []struct {
		x          api.Node
		size, deep int
	}{
		{api.Node{}, 1, 1}, {api.Node{Sub: []api.Node{}}, 1, 1}, {dot, 1, 1}, {n("+", n("*", one, two), one), 5, 3}, {n("+", one, n("*", one, two)), 5, 3}, {s("a"), 2, 2}, {n("call f", a, n("neg", n("neg", a)), b), 6, 4}, {n("call f", n("array", a), n("call g", a, b, c)), 7, 3},
	} {
		if size, deep := syntax.Size(w.x), syntax.Deep(w.x); size != w.size || deep != w.deep {
			t.Errorf("%s: %d nodes, %d levels", shown(w.x), size, deep)
		}
	}
	for _, levels := range []int{1, 2, 100, 254, 255, 256, 257, 258, 1000} {
		x := nested(dot, levels-1)
		beside := n("call f", a, x, n("array", b))
		if syntax.Size(x) != levels || syntax.Deep(x) != min(levels, 257) || syntax.Size(beside) != levels+4 || syntax.Deep(beside) != min(max(levels, 2)+1, 257) {
			t.Errorf("%d levels: %d and %d nodes, %d and %d levels", levels, syntax.Size(x), syntax.Size(beside), syntax.Deep(x), syntax.Deep(beside))
		}
	}
}

// TestGreatTrees has trees of a million nodes, and a small stack: no call may stand for a level.
func TestGreatTrees(t *testing.T) {
	defer debug.SetMaxStack(debug.SetMaxStack(1 << 25))
	const many = 1 << 20
	wide := n("call f", make([]api.Node, many)...)
	for name, x := range map[string]api.Node{"deep": nested(n("loc 5"), many), "wide": wide} {
		if syntax.Size(x) != many+1 {
			t.Errorf("%s: %d nodes", name, syntax.Size(x))
		}
		if want := map[string]int{"deep": 257, "wide": 2}[name]; syntax.Deep(x) != want {
			t.Errorf("%s: %d levels, want %d", name, syntax.Deep(x), want)
		}
		y := syntax.Bare(x)
		if !syntax.Same(x, y) || !syntax.Same(y, x) {
			t.Errorf("%s: Bare is another tree", name)
		}
		inner := &y
		for len(inner.Sub) > 0 {
			inner = &inner.Sub[len(inner.Sub)-1]
		}
		if inner.N != 0 {
			t.Errorf("%s: a spot is left", name)
		}
		inner.Text = "x"
		if syntax.Same(x, y) || syntax.Same(y, x) {
			t.Errorf("%s: Same does not see the last node", name)
		}
		if e := syntax.Check(x); e != api.ErrTree {
			t.Errorf("%s: Check is %d", name, e)
		}
	}
}

// What stands within itself has levels without end.
func TestTreesWithoutEnd(t *testing.T) {
	row := []api.Node{n("call f"), n("call f"), n("call f")}
	row[1].Sub, row[2].Sub = row, row
	if deep := syntax.Deep(row[2]); deep != 257 {
		t.Errorf("%d levels", deep)
	}
	if e := syntax.Check(row[2]); e != api.ErrTree {
		t.Errorf("Check is %d", e)
	}
	if text, e := syntax.Text(row[1]); text != "" || e != api.ErrTree {
		t.Errorf("Text is %q, %d", text, e)
	}
}

func TestSame(t *testing.T) {
	r := rand.New(rand.NewSource(152))
	trees := anyTrees()
	f := func(f float64) api.Node { return api.Node{Kind: api.NNumber, Num: f} }
	trees = append(trees, f(2), f(-2), f(math.Copysign(0, -1)), f(5e-324), f(math.Inf(-1)), f(math.NaN()), n("call f", f(0), f(1)), n("call f", f(1), f(0)), n("call f", f(1)), n("call f", n("call f", f(1)), f(0)), n("call f", f(1), n("call f", f(0))),
		n("array", n("array"), n("array", dot)), n("array", n("array", dot), n("array")), withN(dot, 1), withN(dot, 2), withN(dot, -1), withN(n("param a"), 2), api.Node{Kind: api.NLoc, M: 1}, api.Node{Kind: api.NLoc, Text: "a"}, api.Node{Kind: api.NLoc, Sub: []api.Node{dot}})
	for i, x := range trees {
		for j, y := range trees {
			want := i == j || equal(noSpots(x), noSpots(y)) || x.Num != x.Num && y.Num != y.Num
			if syntax.Same(x, y) != want || syntax.Same(spotted(x, r), spotted(y, r)) != want {
				t.Errorf("Same(%s, %s) = %v", shown(x), shown(y), !want)
			}
		}
	}
	other := math.Float64frombits(math.Float64bits(math.NaN()) ^ 1<<63 ^ 6)
	if !syntax.Same(f(math.NaN()), f(other)) || !syntax.Same(n("array", f(other)), n("array", f(math.NaN()))) {
		t.Error("a NaN is not as a NaN")
	}
	if !syntax.Same(api.Node{Kind: 3, Sub: []api.Node{}}, api.Node{Kind: 3}) || !syntax.Same(withN(n("loc"), -7), withN(n("loc"), math.MaxInt)) {
		t.Error("Same tells apart what is the same")
	}
}

// noSpots answers a tree without spots.
func noSpots(x api.Node) api.Node {
	x = apart(x)
	for _, p := range places(&x) {
		p.At = api.Spot{}
		if p.Kind == api.NLoc {
			p.N = 0
		}
	}
	return x
}

func TestSameSeesEachField(t *testing.T) {
	r := rand.New(rand.NewSource(153))
	others := oneOfEach()
	for range 10000 {
		x := someTree(r, r.Intn(4))
		y := apart(x)
		l := places(&y)
		change(r, l[r.Intn(len(l))], others)
		if want := equal(noSpots(x), noSpots(y)); syntax.Same(x, y) != want || syntax.Same(y, spotted(x, r)) != want {
			t.Fatalf("Same(%s, %s) = %v", shown(x), shown(y), !want)
		}
	}
}

func TestBare(t *testing.T) {
	r := rand.New(rand.NewSource(154))
	trees := anyTrees()
	for range 3000 {
		trees = append(trees, someTree(r, r.Intn(4)))
	}
	trees = append(trees, api.Node{Kind: api.NNumber, Num: math.Copysign(0, -1)}, api.Node{Kind: api.NNumber, Num: math.NaN()}, withN(n("loc"), -1))
	for _, x := range trees {
		x := apart(spotted(x, r))
		before := apart(x)
		got := syntax.Bare(x)
		if !equal(got, noSpots(x)) {
			t.Errorf("Bare(%s) = %s", shown(x), shown(got))
		}
		if !equal(x, before) || !untouched(x) {
			t.Errorf("Bare changes %s to %s", shown(before), shown(x))
		}
		if wrong := shared(got, x); wrong != "" {
			t.Errorf("Bare of %s: %s", shown(x), wrong)
		}
	}
	// one list in two places
	row := []api.Node{n("loc 1"), n("call f", n("loc 2"))}
	x := n("call f", n("call g", row...), n("call h", row...))
	if got := syntax.Bare(x); shared(got, x) != "" || !equal(got, noSpots(x)) {
		t.Error("Bare of a list in two places:", shared(got, x), shown(got))
	}
}

// untouched tells whether the room behind all lists of what apart made is empty still.
func untouched(x api.Node) bool {
	for _, y := range nodes(x) {
		for _, room := range y.Sub[len(y.Sub):cap(y.Sub)] {
			if !equal(room, api.Node{}) {
				return false
			}
		}
	}
	return true
}

// shared tells what is wrong, if a tree shares memory with another one, or its own lists with each other.
func shared(got, handed api.Node) string {
	lists, texts := map[*api.Node]int{}, map[*byte]bool{}
	for _, x := range nodes(handed) {
		for i := range x.Sub[:cap(x.Sub)] {
			lists[&x.Sub[:cap(x.Sub)][i]] = 1
		}
		if x.Text != "" {
			texts[unsafe.StringData(x.Text)] = true
		}
	}
	for _, x := range nodes(got) {
		for i := range x.Sub[:cap(x.Sub)] {
			p := &x.Sub[:cap(x.Sub)][i]
			if lists[p] > 0 {
				return "a list stands in memory that another one has"
			}
			lists[p] = 1
		}
		if x.Text != "" && texts[unsafe.StringData(x.Text)] {
			return "a text stands in memory that was handed in"
		}
	}
	return ""
}

func TestNothingIsChanged(t *testing.T) {
	r := rand.New(rand.NewSource(155))
	for _, x := range append(oneOfEach(), n("call f", none), n("str", n("text a"), n("text b"))) {
		x = apart(spotted(x, r))
		before := apart(x)
		syntax.Check(x)
		syntax.Size(x)
		syntax.Deep(x)
		syntax.Same(x, before)
		tokens, _ := syntax.Tokens(x)
		syntax.Text(x)
		if !equal(x, before) || !untouched(x) {
			t.Errorf("%s is changed to %s", shown(before), shown(x))
		}
		for _, token := range tokens {
			for _, y := range nodes(x) {
				if token.Text != "" && y.Text != "" && unsafe.StringData(token.Text) == unsafe.StringData(y.Text) {
					t.Errorf("Tokens(%s): the token %q stands in a node's memory", shown(x), token.Text)
				}
			}
		}
	}
	long := n("call " + strings.Repeat("a", 100))
	one, _ := syntax.Tokens(long)
	two, _ := syntax.Tokens(long)
	one[0].Text = "x"
	if two[0].Text != long.Text {
		t.Error("two answers share memory")
	}
}
