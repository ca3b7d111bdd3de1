package syntax_test

import (
	"fmt"
	"math"
	"math/rand"
	"slices"
	"strconv"
	"strings"

	"colander/api"
)

// kindOf answers the kind that a name in the tests stands for; an operator's name is its sign.
func kindOf(name string) api.NodeKind {
	return map[string]api.NodeKind{
		"none": api.NNone, ".": api.NIdentity, "..": api.NRecurse, "index": api.NIndex, "slice": api.NSlice, "each": api.NEach, "try": api.NTry, "num": api.NNumber,
		"str": api.NString, "text": api.NText, "format": api.NFormat, "array": api.NArray, "object": api.NObject, "entry": api.NEntry, "neg": api.NNeg,
		"|": api.NPipe, ",": api.NComma, "//": api.NAlt, "or": api.NOr, "and": api.NAnd, "if": api.NIf, "reduce": api.NReduce, "foreach": api.NForeach, "bind": api.NBind,
		"def": api.NFunc, "param": api.NParam, "call": api.NCall, "var": api.NVar, "loc": api.NLoc, "label": api.NLabel, "break": api.NBreak,
		"pvar": api.PVar, "parray": api.PArray, "pobject": api.PObject, "pentry": api.PEntry, "module": api.NModule, "meta": api.NMeta, "import": api.NImport,
		"+": api.NBinary, "-": api.NBinary, "*": api.NBinary, "/": api.NBinary, "%": api.NBinary,
		"==": api.NCompare, "!=": api.NCompare, "<": api.NCompare, "<=": api.NCompare, ">": api.NCompare, ">=": api.NCompare,
		"=": api.NUpdate, "|=": api.NUpdate, "+=": api.NUpdate, "-=": api.NUpdate, "*=": api.NUpdate, "/=": api.NUpdate, "%=": api.NUpdate, "//=": api.NUpdate,
	}[name]
}

// n makes a node of parts: its head is its kind's name, or that and, behind a blank, its text, or its number.
func n(head string, sub ...api.Node) api.Node {
	name, text, _ := strings.Cut(head, " ")
	x := api.Node{Kind: kindOf(name), Text: text, Sub: sub}
	switch x.Kind {
	case 0:
		panic(head)
	case api.NNumber:
		x.Text = ""
		x.Num, _ = strconv.ParseFloat(text, 64)
	case api.NLoc:
		x.Text = ""
		x.N, _ = strconv.Atoi(text)
	case api.NUpdate, api.NCompare, api.NBinary:
		x.Text = name
	}
	return x
}

// withN answers a node with the number n.
func withN(x api.Node, n int) api.Node {
	x.N = n
	return x
}

// dollar makes a parameter of the values of what is given.
func dollar(name string) api.Node { return withN(n("param "+name), 1) }

// include and brought make imports; what is brought has a name with or without a $, as n says.
func include(text string, data api.Node) api.Node {
	return n("import "+text, none, data)
}

func brought(text, name string, number int, data api.Node) api.Node {
	return withN(n("import "+text, n("text "+name), data), number)
}

// s makes a string of one piece.
func s(text string) api.Node { return n("str", n("text "+text)) }

var (
	none = n("none")
	dot  = n(".")
	one  = n("num 1")
	two  = n("num 2")
	a    = n("call a")
	b    = n("call b")
	c    = n("call c")
	vx   = n("var x")
	px   = n("pvar x")
	py   = n("pvar y")
)

// equal tells whether two trees are the same in all their fields, spots too; nil and empty lists are.
func equal(x, y api.Node) bool {
	return x.Kind == y.Kind && x.Text == y.Text && math.Float64bits(x.Num) == math.Float64bits(y.Num) && x.N == y.N && x.M == y.M && x.At == y.At && slices.EqualFunc(x.Sub, y.Sub, equal)
}

// apart answers a tree in memory of its own, each list with room behind its end.
func apart(x api.Node) api.Node {
	x.Text = strings.Clone(x.Text)
	x.Sub = append(make([]api.Node, 0, len(x.Sub)+1), x.Sub...)
	for i := range x.Sub {
		x.Sub[i] = apart(x.Sub[i])
	}
	return x
}

// spotted answers a tree with other spots.
func spotted(x api.Node, r *rand.Rand) api.Node {
	x.At = api.Spot{Line: r.Intn(9) - 4, Col: r.Intn(9), Off: r.Intn(9)}
	if x.Kind == api.NLoc {
		x.N = r.Intn(1000)
	}
	x.Sub = slices.Clone(x.Sub)
	for i := range x.Sub {
		x.Sub[i] = spotted(x.Sub[i], r)
	}
	return x
}

// nodes answers a tree's nodes, each one ahead of those within it.
func nodes(x api.Node) []api.Node {
	out := []api.Node{x}
	for _, part := range x.Sub {
		out = append(out, nodes(part)...)
	}
	return out
}

// places answers where a tree's nodes stand; the tree is the caller's own.
func places(x *api.Node) []*api.Node {
	out := []*api.Node{x}
	for i := range x.Sub {
		out = append(out, places(&x.Sub[i])...)
	}
	return out
}

// nested answers a tree within n arrays.
func nested(x api.Node, levels int) api.Node {
	for range levels {
		x = n("array", x)
	}
	return x
}

// shown writes a tree for people.
func shown(x api.Node) string {
	out := fmt.Sprintf("%d", x.Kind)
	if x.Text != "" {
		out += fmt.Sprintf(" %q", x.Text)
	}
	if x.Num != 0 || math.Signbit(x.Num) {
		out += fmt.Sprintf(" num %v", x.Num)
	}
	if x.N != 0 || x.M != 0 {
		out += fmt.Sprintf(" N %d M %d", x.N, x.M)
	}
	for _, part := range x.Sub {
		out += " " + shown(part)
	}
	return "(" + out + ")"
}

func eachShown(l []api.Node) string {
	var out []string
	for _, x := range l {
		out = append(out, shown(x))
	}
	return strings.Join(out, " ")
}
