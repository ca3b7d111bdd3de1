package syntax_test

import (
	"math"
	"math/rand"
	"strings"

	"colander/api"
)

// someTree answers a tree that may be.
func someTree(r *rand.Rand, levels int) api.Node {
	if r.Intn(5) > 0 {
		return someExpression(r, levels)
	}
	l := []api.Node{none}
	if r.Intn(2) == 0 {
		l[0] = n("meta", someData(r, levels))
	}
	for range r.Intn(3) {
		l = append(l, someImport(r, levels))
	}
	for range r.Intn(3) {
		l = append(l, someFunction(r, levels, none))
	}
	return n("module", append(l, someOptional(r, levels))...)
}

func oneOf(r *rand.Rand, words string) string {
	l := strings.Fields(words)
	return l[r.Intn(len(l))]
}

const (
	calledNames = "a b_1 Z null true false not empty __loc"
	boundNames  = calledNames + " if __loc and"
	formats     = "@json @1 @_ @base64d"
)

func somePiece(r *rand.Rand) string {
	l := []string{"a", "\n", "\"", "\\", "é", " # ", "\\(", ")", "\\u0041", "\x00\x7f", "😀\ufffd", "'", "a b c"}
	return l[r.Intn(len(l))]
}

func someOptional(r *rand.Rand, levels int) api.Node {
	if r.Intn(3) == 0 {
		return none
	}
	return someExpression(r, levels)
}

func someLeaf(r *rand.Rand) api.Node {
	l := []api.Node{
		dot, n(".."), n("str"), s(somePiece(r)), n("format " + oneOf(r, formats)), n("array"), n("object"), n("call " + oneOf(r, calledNames)), n("call if::" + oneOf(r, calledNames)), n("var " + oneOf(r, boundNames)), n("var a::" + oneOf(r, boundNames+" __loc__")), n("loc 3"), n("break " + oneOf(r, boundNames)),
		{Kind: api.NNumber, Num: math.Abs(r.NormFloat64())}, {Kind: api.NNumber, Num: float64(r.Intn(4))}, {Kind: api.NNumber, Num: math.Float64frombits(uint64(r.Int63n(0x7ff<<52 + 1)))}, {Kind: api.NNumber, Num: math.Inf(1)},
	}
	return l[r.Intn(len(l))]
}

func someExpression(r *rand.Rand, levels int) api.Node {
	if levels == 0 {
		return someLeaf(r)
	}
	e := func() api.Node { return someExpression(r, levels-1) }
	o := func() api.Node { return someOptional(r, levels-1) }
	switch r.Intn(24) {
	case 0, 1:
		return someLeaf(r)
	case 2:
		return n("index", e(), e())
	case 3:
		return n("slice", e(), []api.Node{none, e()}[r.Intn(2)], e())
	case 4:
		return n("slice", e(), e(), o())
	case 5:
		return n("each", e())
	case 6:
		return n("try", e())
	case 7:
		return n("try", e(), e())
	case 8:
		return someString(r, levels)
	case 9:
		return n("array", e())
	case 10:
		return someObject(r, levels)
	case 11, 12:
		return n("neg", e())
	case 13:
		return n("if", e(), e(), o())
	case 14:
		return n("reduce", e(), somePatterns(r, levels-1), e(), e())
	case 15:
		return n("foreach", e(), somePatterns(r, levels-1), e(), e(), o())
	case 16:
		l := []api.Node{e(), somePattern(r, levels-1)}
		for r.Intn(2) == 0 {
			l = append(l, somePattern(r, levels-1))
		}
		return n("bind", append(l, e())...)
	case 17:
		return someFunction(r, levels, e())
	case 18:
		x := n("call " + oneOf(r, calledNames))
		for range r.Intn(4) {
			x.Sub = append(x.Sub, e())
		}
		return x
	case 19:
		return n("label "+oneOf(r, boundNames), e())
	}
	return n(oneOf(r, "| | | , , , // // or or and and = |= += -= *= /= %= //= == != < <= > >= + + - - * * / / %"), e(), e())
}

func someString(r *rand.Rand, levels int) api.Node {
	x := n("str")
	if r.Intn(3) == 0 {
		x.Text = oneOf(r, formats)
	}
	for range r.Intn(4) {
		if last := len(x.Sub) - 1; r.Intn(2) == 0 && (last < 0 || x.Sub[last].Kind != api.NText) {
			x.Sub = append(x.Sub, n("text "+somePiece(r)))
		} else {
			x.Sub = append(x.Sub, someExpression(r, levels-1))
		}
	}
	return x
}

// someData answers an object that is a constant.
func someData(r *rand.Rand, levels int) api.Node {
	x := n("object")
	for range r.Intn(3) {
		x.Sub = append(x.Sub, n("entry", s(somePiece(r)), someConstant(r, levels)))
	}
	return x
}

func someObject(r *rand.Rand, levels int) api.Node {
	if levels < 2 {
		return someData(r, levels)
	}
	x := n("object")
	for range r.Intn(4) {
		key := someExpression(r, levels-2)
		if r.Intn(3) == 0 {
			key = someString(r, levels-1)
		}
		x.Sub = append(x.Sub, n("entry", key, someExpression(r, levels-2)))
	}
	return x
}

func someConstant(r *rand.Rand, levels int) api.Node {
	l := []api.Node{n("num 2.5"), n("str"), s(somePiece(r)), n("call " + oneOf(r, "null true false")), n("neg", n("num 1e400")), n("array"), n("object")}
	if levels > 0 {
		l = append(l, n("array", someConstants(r, levels-1)), someData(r, levels-1))
	}
	return l[r.Intn(len(l))]
}

func someConstants(r *rand.Rand, levels int) api.Node {
	if levels > 0 && r.Intn(2) == 0 {
		return n(",", someConstants(r, levels-1), someConstants(r, levels-1))
	}
	return someConstant(r, levels)
}

func someImport(r *rand.Rand, levels int) api.Node {
	data := none
	if r.Intn(2) == 0 {
		data = someData(r, levels)
	}
	text := []string{"", somePiece(r)}[r.Intn(2)]
	switch r.Intn(3) {
	case 0:
		return include(text, data)
	case 1:
		return brought(text, oneOf(r, calledNames), 1, data)
	}
	return brought(text, oneOf(r, boundNames), 2, data)
}

func someFunction(r *rand.Rand, levels int, behind api.Node) api.Node {
	x := n("def " + oneOf(r, calledNames))
	for range r.Intn(3) {
		x.Sub = append(x.Sub, []api.Node{n("param " + oneOf(r, calledNames)), dollar(oneOf(r, boundNames))}[r.Intn(2)])
	}
	x.Sub = append(x.Sub, someExpression(r, max(levels-1, 0)), behind)
	return x
}

func somePatterns(r *rand.Rand, levels int) api.Node {
	if levels == 0 || r.Intn(2) == 0 {
		return somePattern(r, levels)
	}
	x := n("bind", somePattern(r, levels-1), somePattern(r, levels-1))
	for r.Intn(2) == 0 {
		x.Sub = append(x.Sub, somePattern(r, levels-1))
	}
	return x
}

func somePattern(r *rand.Rand, levels int) api.Node {
	v := n("pvar " + oneOf(r, boundNames))
	if levels < 2 {
		return v
	}
	switch r.Intn(3) {
	case 0:
		x := n("parray", somePattern(r, levels-1))
		for r.Intn(2) == 0 {
			x.Sub = append(x.Sub, somePattern(r, levels-1))
		}
		return x
	case 1:
		x := n("pobject", somePair(r, levels-2))
		for r.Intn(2) == 0 {
			x.Sub = append(x.Sub, somePair(r, levels-2))
		}
		return x
	}
	return v
}

func somePair(r *rand.Rand, levels int) api.Node {
	v := n("pvar " + oneOf(r, boundNames))
	switch r.Intn(4) {
	case 0:
		return n("pentry", v, none)
	case 1:
		return n("pentry", v, somePattern(r, levels))
	case 2:
		return n("pentry", someString(r, levels+1), somePattern(r, levels))
	}
	return n("pentry", someExpression(r, levels), somePattern(r, levels))
}
