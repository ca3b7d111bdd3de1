package syntax_test

import (
	"math/rand"
	"slices"
	"strings"
	"testing"

	"colander/api"
	"colander/syntax"
)

// P15.3

func TestWhatFollows(t *testing.T) {
	r := rand.New(rand.NewSource(157))
	trees := good()
	for range 10000 {
		trees = append(trees, someTree(r, r.Intn(5)))
	}
	for _, x := range trees {
		text, e := syntax.Text(x)
		if e != api.OK {
			t.Fatalf("Text(%s): %d", shown(x), e)
		}
		other := spotted(x, r)
		if again, e := syntax.Text(other); !syntax.Same(x, other) || again != text || e != api.OK {
			t.Fatalf("the same as %s with other spots: %q, %d, not %q", shown(x), again, e, text)
		}
		if y := syntax.Bare(other); !syntax.Same(x, y) || !syntax.Same(y, other) {
			t.Fatalf("Bare of %s is another tree", shown(x))
		}
		if tokens, _ := syntax.Tokens(x); !slices.Equal(scanned(t, text), tokens) {
			t.Fatalf("Scan(%q) is not %v", text, tokens)
		}
		for _, part := range nodes(x) {
			want := checkModel(part)
			if isExpression := strings.Contains("xskcje", letter(part)); isExpression != (want == 0) && part.Kind != api.NModule {
				t.Fatal("the model does not hold")
			}
			if got := syntax.Check(part); got != want {
				t.Fatalf("Check of the part %s is %d, want %d", shown(part), got, want)
			}
		}
	}
}

// smallTrees answers all trees that are made of leaves in up to so many steps, each of which puts one tree, or two, within another one.
func smallTrees(leaves []api.Node, single []func(api.Node) api.Node, double []func(x, y api.Node) api.Node, steps int) []api.Node {
	made := [][]api.Node{leaves}
	for len(made) <= steps {
		var l []api.Node
		last := len(made) - 1
		for _, x := range made[last] {
			for _, f := range single {
				l = append(l, f(x))
			}
		}
		for i := range made {
			for _, x := range made[i] {
				for _, y := range made[last-i] {
					for _, f := range double {
						l = append(l, f(x, y))
					}
				}
			}
		}
		made = append(made, l)
	}
	return slices.Concat(made...)
}

func single(heads ...string) []func(api.Node) api.Node {
	var out []func(api.Node) api.Node
	for _, head := range heads {
		out = append(out, func(x api.Node) api.Node { return n(head, x) })
	}
	return out
}

func double(heads ...string) []func(x, y api.Node) api.Node {
	var out []func(x, y api.Node) api.Node
	for _, head := range heads {
		out = append(out, func(x, y api.Node) api.Node { return n(head, x, y) })
	}
	return out
}

// checkTexts asks that trees that are not the same have texts that are not, so that no parentheses are missing.
func checkTexts(t *testing.T, trees []api.Node, least int) {
	t.Helper()
	seen := map[string]api.Node{}
	for _, x := range trees {
		text, e := syntax.Text(x)
		if e != api.OK {
			t.Fatalf("Text(%s): %d", shown(x), e)
		}
		if y, ok := seen[text]; ok && !syntax.Same(x, y) {
			t.Fatalf("%s and %s have the same text %q", shown(x), shown(y), text)
		}
		seen[text] = x
	}
	if len(seen) < least {
		t.Errorf("%d texts alone", len(seen))
	}
}

func TestOtherTreesHaveOtherTexts(t *testing.T) {
	bound := func(x, y api.Node) api.Node { return n("bind", x, px, y) }
	ones := append(single("neg", "try", "each", "array", "label x", "call a", "str"),
		func(x api.Node) api.Node { return n("slice", x, none, a) }, func(x api.Node) api.Node { return n("slice", a, x, none) }, func(x api.Node) api.Node { return n("slice", a, none, x) },
		func(x api.Node) api.Node { return n("if", x, a, none) }, func(x api.Node) api.Node { return n("if", a, x, x) }, func(x api.Node) api.Node { return n("foreach", a, px, a, x, none) }, func(x api.Node) api.Node { return n("reduce", x, n("bind", px, px), a, x) })
	twos := append(double("|", ",", "//", "=", "or", "and", "<", "+", "-", "*", "try", "index", "def a", "call a", "str"),
		bound, func(x, y api.Node) api.Node { return n("object", n("entry", x, y)) }, func(x, y api.Node) api.Node { return n("def a", dollar("a"), x, y) }, func(x, y api.Node) api.Node { return n("bind", a, n("pobject", n("pentry", x, px)), y) })
	checkTexts(t, smallTrees([]api.Node{a, n("var a"), n("str")}, ones, twos, 2), 25000)
	checkTexts(t, smallTrees([]api.Node{a}, single("neg", "try", "each"), append(double("|", ",", "//", "=", "or", "and", "<", "+", "*", "try"), bound), 3), 8000)
}
