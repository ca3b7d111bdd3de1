package syntax_test

import (
	"math"
	"math/rand"
	"strings"
	"testing"

	"colander/api"
	"colander/syntax"
)

// P15.1: Check

func checkTaken(t *testing.T, x api.Node, want api.Errno) {
	t.Helper()
	if e := syntax.Check(x); e != want {
		t.Errorf("Check(%s) = %d, want %d", shown(x), e, want)
	}
	if want == api.OK {
		return
	}
	if l, e := syntax.Tokens(x); len(l) != 0 || e != want {
		t.Errorf("Tokens(%s) = %v, %d, want %d", shown(x), l, e, want)
	}
	if text, e := syntax.Text(x); text != "" || e != want {
		t.Errorf("Text(%s) = %q, %d, want %d", shown(x), text, e, want)
	}
}

// good are trees that may be: each row of the table.
func good() []api.Node {
	item := func(parts ...api.Node) api.Node { return n("object", n("entry", parts...)) }
	bound := func(p api.Node) api.Node { return n("bind", dot, p, vx) }
	return []api.Node{
		dot, n(".."), n("index", dot, s("a")), n("slice", dot, one, two), n("slice", dot, none, two), n("slice", dot, one, none), n("each", dot), n("try", a), n("try", a, b),
		one, n("num 0"), n("num 0.5"), n("num 1e400"), n("str"), s("a"), n("str @json"), n("str @0_a", n("text a"), b, c, n("text d")), n("str", a, n("text é\x00\ufffd"), b), n("str", s("a")), n("format @a"), n("format @_"), n("format @9"),
		n("array"), n("array", one), n("object"), item(s("a"), one), item(vx, one), item(n("var a::b"), one), item(a, b), n("object", n("entry", a, b), n("entry", vx, c)), n("neg", one), n("neg", n("neg", a)),
		n("|", a, b), n(",", a, b), n("//", a, b), n("or", a, b), n("and", a, b), n("=", a, b), n("|=", a, b), n("+=", a, b), n("-=", a, b), n("*=", a, b), n("/=", a, b), n("%=", a, b), n("//=", a, b),
		n("==", a, b), n("!=", a, b), n("<", a, b), n("<=", a, b), n(">", a, b), n(">=", a, b), n("+", a, b), n("-", a, b), n("*", a, b), n("/", a, b), n("%", a, b),
		n("if", a, b, c), n("if", a, b, none), n("reduce", a, px, b, c), n("reduce", a, n("bind", px, py), b, c), n("foreach", a, px, b, c, none), n("foreach", a, n("bind", px, py, px), b, c, vx),
		bound(px), n("bind", a, px, py, b), bound(n("parray", px)), bound(n("parray", px, n("parray", py))), bound(n("pobject", n("pentry", px, none))), bound(n("pobject", n("pentry", px, py), n("pentry", s("a"), px))), bound(n("pobject", n("pentry", vx, py))), bound(n("pobject", n("pentry", n("|", a, b), n("parray", px)))),
		n("def f", a, b), n("def f", n("param g"), dollar("x"), dollar("if"), a, b), n("call f"), n("call a::f", a, b, c), n("call if::end"), n("call __loc__::f"), vx, n("var if"), n("var a::b"), n("var __loc__::a"), n("var __loc"), n("loc 0"), n("loc 7"), withN(n("loc"), math.MaxInt), n("label x", a), n("label if", a), n("break x"), n("break or"),
		n("module", none, none), n("module", none, a), n("module", n("meta", n("object")), none), n("module", none, include("", none), n("def f", a, none), n("def g", b, c)),
		n("module", n("meta", item(s("a"), s("b"))), include("é", n("object")), brought("a", "f", 1, none), brought("a", "if", 2, item(s("k"), one)), n("def f", dollar("y"), a, none), n("def f", b, none), none),
	}
}

func TestTreesThatMayBe(t *testing.T) {
	for _, x := range good() {
		checkTaken(t, x, api.OK)
		x.Sub = append([]api.Node{}, x.Sub...)
		checkTaken(t, x, api.OK)
	}
}

func TestTreesThatMayNotBe(t *testing.T) {
	bound := func(p api.Node) api.Node { return n("bind", dot, p, vx) }
	for _, x := range []api.Node{
		{}, none, n("text a"), n("entry", a, b), n("param a"), px, n("parray", px), n("pobject", n("pentry", px, none)), n("pentry", px, none), n("meta", n("object")), include("a", none), n("def f", a, none), n("bind", px, py),
		{Kind: -1}, {Kind: 42}, {Kind: api.RVar}, {Kind: api.RConst}, {Kind: api.RNative, Text: "a"}, {Kind: math.MaxInt}, {Kind: math.MinInt},
		n("str", n("text a"), n("text b")), n("str", a, n("text a"), n("text b"), a), n("reduce", a, n("bind", px), b, c), n("foreach", a, n("bind", px), b, c, a), n("reduce", a, n("bind", vx, px, a), b, c), n("reduce", a, n("bind"), b, c), n("reduce", a, n("bind x", px, py), b, c), n("reduce", a, withN(n("bind", px, py), 1), b, c), n("reduce", a, b, b, c), n("reduce", a, none, b, c), n("reduce", a, px, b), n("reduce", a, px, b, none), n("foreach", a, px, b, none, c), n("foreach", a, px, b, c),
		n("slice", dot, none, none), n("slice", none, a, b), n("slice", dot, a), n("index", dot, none), n("index", dot), n("try"), n("try", a, none), n("try", a, b, c), n("each"), n("array", none), n("array", a, b), n("object", a), n("object", none), n("object", n("entry", a)), n("object", n("entry", a, none)), n("object", n("entry", none, a)), n("if", a, b), n("if", a, none, b), n("if", none, a, b),
		n("bind", a, b), n("bind", a, px), n("bind", px, a), n("bind", a, px, none), n("bind", px, px, a), n("bind", a, px, b, c), n("bind", a, px, b, py, c), bound(n("parray")), bound(n("pobject")), bound(n("pobject", n("pentry", vx, none))), bound(n("pobject", n("pentry", s("a"), none))), bound(n("pobject", n("pentry", px, vx))), bound(n("pobject", n("pentry", n("parray", px), py))), bound(n("pobject", n("pentry", none, py))), bound(n("pobject", px)), bound(n("parray", none)), bound(n("parray", vx)),
		n("def f", a), n("def f"), n("def f", a, none), n("def f", none, a), n("def f", n("param a"), a), n("def f", a, n("param a"), b), n("def f", px, a, b), n("call f", none), n("|", a, n("def f", a, none)), n("|", a, n("module", none, none)), n("|", a, n("bind", px, py)),
		n("module"), n("module", none), n("module", a), n("module", a, none), n("module", n("meta", n("object"))), n("module", none, n("def f", a, b), none), n("module", none, n("def f", a, none)), n("module", none, n("def f", a, none), include("a", none), none), n("module", include("a", none), none), n("module", none, include("a", none)), n("module", none, n("meta", n("object")), none), n("module", none, none, none), n("module", none, a, a), n("module", n("object"), none), n("module", none, n("module", none, none)), n("module", none, n("def f", withN(n("param if"), 0), a, none), none),
		n("module", none, n("import a"), none), n("module", none, n("import a", none), none), n("module", none, n("import a", none, none, none), none), n("module", none, withN(include("a", none), 1), none), n("module", none, withN(include("a", none), 2), none), n("module", none, brought("a", "b", 0, none), none), n("module", none, brought("a", "b", 3, none), none), n("module", none, brought("a", "b", -1, none), none), n("module", none, brought("a", "if", 1, none), none), n("module", none, brought("a", "__loc__", 2, none), none), n("module", none, brought("a", "b::c", 1, none), none), n("module", none, brought("a", "b::c", 2, none), none), n("module", none, brought("a", "", 1, none), none), n("module", none, brought("\xff", "b", 1, none), none), n("module", none, withN(n("import a", n("call b"), none), 1), none), n("module", none, withN(n("import a", s("b"), none), 1), none), n("module", none, withN(n("import a", n("var b"), none), 2), none),
	} {
		checkTaken(t, x, api.ErrTree)
	}
}

// wrapped answers trees within which a node stands in a place of each kind.
func wrapped(x api.Node) []api.Node {
	return []api.Node{
		x, n("array", x), n("str", x), n("object", x), n("object", n("entry", x, one)), n("def f", x, a, b), n("def f", a, x), n("slice", dot, one, x),
		n("bind", dot, x, vx), n("bind", dot, n("pobject", x), vx), n("bind", dot, n("pobject", n("pentry", x, py)), vx), n("bind", dot, n("pobject", n("pentry", px, x)), vx), n("reduce", dot, x, a, b),
		n("module", x, none), n("module", none, x, none), n("module", none, x), n("module", n("meta", x), none), n("module", n("meta", n("object", x)), none), n("module", none, include("a", x), none), n("module", none, n("import a", x, none), none), n("module", none, withN(n("import a", x, none), 1), none), n("module", none, withN(n("import a", x, none), 2), none),
	}
}

// kinds are all kinds, and some that are none.
func kinds() []api.NodeKind {
	var out []api.NodeKind
	for k := api.NodeKind(-1); k <= 60; k++ {
		out = append(out, k)
	}
	return append(out, 1<<32+2, math.MaxInt, math.MinInt)
}

func checkAsModel(t *testing.T, x api.Node) {
	t.Helper()
	want := checkModel(x)
	if got := syntax.Check(x); got != want {
		t.Fatalf("Check(%s) = %d, want %d", shown(x), got, want)
	}
}

// oneOfEach answers a node of each kind that may be in its place, and some more.
func oneOfEach() []api.Node {
	out := []api.Node{
		none, n("text a"), n("entry", a, b), n("entry", s("a"), one), n("param a"), dollar("a"), px, n("parray", px), n("pobject", n("pentry", px, none)), n("pentry", px, none), n("pentry", px, py), n("pentry", vx, py),
		n("meta", n("object")), include("a", none), brought("a", "f", 1, none), brought("a", "f", 2, none), n("def f", a, none), n("bind", px, py),
	}
	return append(out, good()...)
}

func TestFieldsOfEachKind(t *testing.T) {
	texts := strings.Split("| |a|A|_|a1|1a|a::b|a::|::a|a:b|a::1|a b|a |é|\xff|a\xff|\xed\xa0\x80|\ufffd|\x00|@|@a|@1|@_a1|@a b|@a::b|@é|@@a|@a-|@json |a@|__loc__|__loc|__loc__::a|a::__loc__|if|if::a|a::if|def|import|include|module|then|elif|else|end|as|reduce|foreach|try|catch|label|break|and|or|null|true|false|not|$a|.a|=|+=|-=|*=|/=|%=|//=|==|!=|<|<=|>|>=|+|-|*|/|%|//|===|=<|?//|,|;|+ |=+|+-", "|")
	texts = append(texts, "|", "|=", "||", "||=", "?//=", strings.Repeat("a", 100000), "@"+strings.Repeat("a", 100000), strings.Repeat("a::", 1000)+"a")
	nums := []float64{1, -1, math.Copysign(0, -1), 0.5, 5e-324, -5e-324, math.MaxFloat64, math.Inf(1), math.Inf(-1), math.NaN()}
	counts := []int{-1, 1, 2, 3, 1 << 32, math.MaxInt, math.MinInt}
	check := func(x api.Node) {
		for _, tree := range wrapped(x) {
			checkAsModel(t, tree)
		}
	}
	for _, x := range oneOfEach() {
		check(x)
		for _, text := range texts {
			y := x
			y.Text = text
			check(y)
		}
		for _, f := range nums {
			y := x
			y.Num = f
			check(y)
		}
		for _, i := range counts {
			y, z := x, x
			y.N, z.M = i, i
			check(y)
			check(z)
			y.Text = "__loc__"
			check(y)
			y.Text = "if"
			check(y)
		}
		for _, k := range kinds() {
			y := x
			y.Kind = k
			check(y)
		}
		x.At = api.Spot{Line: math.MinInt, Col: -1, Off: math.MaxInt}
		check(x)
	}
}

func TestPartsOfEachKind(t *testing.T) {
	parts := []api.Node{
		none, a, one, s("a"), n("str @a", n("text a")), n("text a"), n("entry", a, b), n("entry", s("a"), one), n("param a"), px, n("parray", px), n("bind", px, py), n("bind", a, px, b),
		n("pentry", px, none), n("def f", a, none), n("def f", a, b), n("meta", n("object")), include("a", none), n("object"), n("module", none, none), n(",", one, two), {},
	}
	rows := [][]api.Node{nil}
	for _, p := range parts {
		rows = append(rows, []api.Node{p})
		for _, q := range parts {
			rows = append(rows, []api.Node{p, q})
			for _, r := range parts {
				rows = append(rows, []api.Node{p, q, r})
			}
		}
	}
	seen := map[string]bool{}
	for _, x := range oneOfEach() {
		x.Sub = nil
		if seen[shown(x)] {
			continue
		}
		seen[shown(x)] = true
		for _, row := range rows {
			x.Sub = row
			checkAsModel(t, x)
			if len(row) < 3 {
				for _, tree := range wrapped(x)[1:] {
					checkAsModel(t, tree)
				}
			}
		}
	}
}

func TestLongRowsOfParts(t *testing.T) {
	parts := []api.Node{none, a, n("text a"), n("param a"), px, n("bind", px, py), n("def f", a, none), include("a", none)}
	heads := []string{"str", "if", "reduce", "foreach", "bind", "def f", "call f", "module", "slice", "try"}
	var row []api.Node
	var goOn func()
	goOn = func() {
		if len(row) == 5 {
			for _, head := range heads {
				checkAsModel(t, n(head, row...))
				checkAsModel(t, n(head, row[:4]...))
			}
			checkAsModel(t, n("reduce", a, n("bind", row[:3]...), b, c))
			checkAsModel(t, n("module", none, n("def f", row[:3]...), none))
			return
		}
		for _, p := range parts {
			row = append(row, p)
			goOn()
			row = row[:len(row)-1]
		}
	}
	goOn()
}

func TestConstants(t *testing.T) {
	data := func(v api.Node) api.Node { return n("object", n("entry", s("k"), v)) }
	list := func(l api.Node) api.Node { return n("array", l) }
	yes := []api.Node{
		one, n("num 1e400"), n("str"), s("a"), n("call null"), n("call true"), n("call false"), n("neg", one), n("array"), list(one), list(n(",", one, two)), list(n(",", n(",", one, s("a")), n("call null"))), list(n(",", one, n(",", one, n("array")))), list(list(n(",", one, one))), n("object"), data(one), list(data(one)),
		n("object", n("entry", n("str"), one), n("entry", s("a"), one), n("entry", s("a"), n("neg", two))),
	}
	no := []api.Node{
		n("str @json", n("text a")), n("str", one), n("str", n("text a"), one), n("call nul"), n("call null", one), n("call a::null"), n("call not"), n("neg", n("neg", one)), n("neg", s("a")), n("neg", a), list(a), list(n(",", one, a)), list(n(",", a, one)), list(n("|", one, one)), n(",", one, one), list(n(",", n(",", one, a), one)), list(list(a)),
		data(a), n("object", n("entry", n("str @json", n("text a")), one)), n("object", n("entry", n("str", a), one)), n("object", n("entry", one, one)), n("object", n("entry", vx, one)), n("object", n("entry", s("a"), n(",", one, one))), dot, vx, n("loc 1"), n("format @json"), n("|", one, one), n("+", one, one), n("index", data(one), s("k")), n("if", n("call true"), one, two), n("module", none, none), n("def f", one, one), n("array", n("neg", a)),
	}
	for want, l := range map[api.Errno][]api.Node{api.OK: yes, api.ErrTree: no} {
		for _, v := range l {
			for _, x := range []api.Node{n("meta", data(v)), include("a", data(v)), brought("a", "b", 1, data(v)), brought("a", "b", 2, data(v))} {
				tree := n("module", none, x, none)
				if x.Kind == api.NMeta {
					tree = n("module", x, none)
				}
				checkTaken(t, tree, want)
				checkAsModel(t, tree)
			}
			if v.Kind == api.NModule {
				continue
			}
			checkTaken(t, data(v), api.OK) // elsewhere any expression may stand there
			if v.Kind != api.NObject {
				checkTaken(t, n("module", n("meta", v), none), api.ErrTree)
				checkTaken(t, n("module", none, include("a", v), none), api.ErrTree)
			}
		}
	}
}

func TestLevelsThatMayBe(t *testing.T) {
	// ways are nodes with what stands so many levels further in
	type way struct {
		in     func(api.Node) api.Node
		levels int
		inner  api.Node
	}
	for i, w := range []way{
		{func(x api.Node) api.Node { return n("array", x) }, 1, dot},
		{func(x api.Node) api.Node { return n("|", a, x) }, 1, one},
		{func(x api.Node) api.Node { return n("|", x, a) }, 1, n("call a")},
		{func(x api.Node) api.Node { return n("+", n("neg", x), a) }, 2, vx},
		{func(x api.Node) api.Node { return n("str @a", n("text a"), x, n("text a")) }, 1, n("str")},
		{func(x api.Node) api.Node { return n("object", n("entry", x, a)) }, 2, a},
		{func(x api.Node) api.Node { return n("object", n("entry", n("str"), x)) }, 2, a},
		{func(x api.Node) api.Node { return n("def f", x, a) }, 1, a},
		{func(x api.Node) api.Node { return n("bind", dot, n("pobject", n("pentry", x, px)), a) }, 3, a},
		{func(x api.Node) api.Node {
			return n("reduce", a, n("bind", px, n("pobject", n("pentry", x, px))), a, a)
		}, 4, a},
		{func(x api.Node) api.Node { return n("foreach", a, px, b, c, x) }, 1, a},
	} {
		for _, levels := range []int{255, 256, 257, 258, 300} {
			x, deep := w.inner, 1
			for deep+w.levels <= levels {
				x = w.in(x)
				deep += w.levels
			}
			for ; deep < levels; deep++ {
				x = n("array", x)
			}
			want := api.OK
			if levels > 256 {
				want = api.ErrTree
			}
			if syntax.Check(x) != want || syntax.Check(n("module", none, x)) != checkModel(n("module", none, x)) {
				t.Errorf("way %d, %d levels: %d, want %d", i, levels, syntax.Check(x), want)
			}
			if _, e := syntax.Text(x); e != want {
				t.Errorf("Text of way %d, %d levels: %d, want %d", i, levels, e, want)
			}
		}
	}
	p := px
	for range 252 {
		p = n("parray", p)
	}
	k := n("array")
	for range 249 {
		k = n("array", k)
	}
	for want, x := range map[api.Errno]api.Node{
		api.OK:      n("array", n("array", n("bind", dot, p, vx))),
		api.ErrTree: n("array", n("array", n("array", n("bind", dot, p, vx)))),
	} {
		checkTaken(t, x, want)
	}
	data := func(v api.Node) api.Node { return n("module", n("meta", n("object", n("entry", s("k"), v))), none) }
	checkTaken(t, data(n("array", n("array", k))), api.OK)
	checkTaken(t, data(n("array", n("array", n("array", k)))), api.ErrTree)
	// what is too deep beside what is not, and what may not be beside what is too deep
	checkTaken(t, n("call f", a, nested(a, 255), a), api.ErrTree)
	checkTaken(t, n("call f", a, nested(a, 254), a), api.OK)
	checkTaken(t, n("call f", none, nested(a, 300)), api.ErrTree)
}

func TestCheckOfManyNodes(t *testing.T) {
	parts := make([]api.Node, 1<<20)
	for i := range parts {
		parts[i] = one
	}
	x := n("call f", parts...)
	checkTaken(t, x, api.OK)
	parts[len(parts)-1] = none
	checkTaken(t, x, api.ErrTree)
}

// P15.1, and that no tree panics: trees with something changed anywhere.

func TestCheckOfChangedTrees(t *testing.T) {
	r := rand.New(rand.NewSource(151))
	taken, others := 0, oneOfEach()
	for range 30000 {
		x := apart(someTree(r, r.Intn(4)))
		checkAsModel(t, x)
		l := places(&x)
		for range 1 + r.Intn(2) {
			change(r, l[r.Intn(len(l))], others)
		}
		checkAsModel(t, x)
		if syntax.Check(x) == 0 {
			taken++
		}
	}
	if taken < 3000 || taken > 27000 {
		t.Errorf("%d of 30000 changed trees may be", taken)
	}
}

// change changes something of a node, or puts another one in its place, or within it.
func change(r *rand.Rand, x *api.Node, others []api.Node) {
	texts := []string{"", "a", "if", "__loc__", "a::b", "@a", "=", "==", "+", "*", "null", "\xff"}
	switch r.Intn(9) {
	case 0:
		x.Kind = api.NodeKind(1 + r.Intn(41))
	case 1:
		x.Text = texts[r.Intn(len(texts))]
	case 2:
		x.Num = []float64{1, -1, math.NaN(), math.Copysign(0, -1), 0}[r.Intn(5)]
	case 3:
		x.N = r.Intn(4) - 1
	case 4:
		x.M = r.Intn(2)
	case 5:
		x.Sub = x.Sub[:r.Intn(len(x.Sub)+1)]
	case 6:
		x.Sub = x.Sub[r.Intn(len(x.Sub)+1):]
	case 7:
		*x = others[r.Intn(len(others))]
	case 8:
		x.Sub = append(x.Sub, others[r.Intn(len(others))])
	}
}
