package syntax_test

import (
	"math"
	"math/rand"
	"slices"
	"strings"
	"testing"

	"colander/api"
	"colander/lexer"
	"colander/syntax"
)

// P15.2

// checkText asks that a tree has a text, and the tokens of that.
func checkText(t *testing.T, x api.Node, want string) {
	t.Helper()
	text, e := syntax.Text(x)
	if text != want || e != api.OK {
		t.Errorf("Text(%s) = %q, %d, want %q", shown(x), text, e, want)
	}
	checkTokens(t, x, want)
}

// checkTokens asks that a tree has the tokens of a text.
func checkTokens(t *testing.T, x api.Node, text string) {
	t.Helper()
	got, e := syntax.Tokens(x)
	want := scanned(t, text)
	if e != api.OK || !slices.Equal(got, want) {
		t.Errorf("Tokens(%s) = %v, %d, want %v (%q)", shown(x), got, e, want, text)
	}
}

// scanned answers a text's tokens without spots and without the end.
func scanned(t *testing.T, text string) []api.Token {
	t.Helper()
	l, f := lexer.Scan(text)
	if f.Code != 0 {
		t.Fatalf("Scan(%q): %v", text, f)
	}
	l = l[:len(l)-1]
	for i := range l {
		l[i].At = api.Spot{}
	}
	return l
}

func TestExamples(t *testing.T) {
	checkText(t, n("+", n("*", one, two), n("num 3")), `1 * 2 + 3`)
	checkText(t, n("*", n("neg", one), two), `( - 1 ) * 2`)
	checkText(t, n("=", a, n("//", b, c)), `a = ( b // c )`)
	checkText(t, n("index", dot, s("a")), `. [ "a" ]`)
	checkText(t, n("try", n("call error")), `error ?`)
	checkText(t, n("module", none, n("def f", one, n("call f"))), `( def f : 1 ; f )`)
	checkTaken(t, n("str", n("text a"), n("text b")), api.ErrTree)
	checkTaken(t, n("reduce", a, n("bind", px), b, c), api.ErrTree)
}

func TestTextOfEachKind(t *testing.T) {
	data := n("object", n("entry", s("k"), n("array", n(",", n(",", one, n("call null")), n("neg", two)))), n("entry", n("str"), n("neg", one)))
	bound := func(p ...api.Node) api.Node { return n("bind", append(append([]api.Node{dot}, p...), vx)...) }
	for _, w := range []struct {
		x    api.Node
		want string
	}{
		{dot, `.`}, {n(".."), `..`}, {n("index", a, n("|", b, c)), `a [ b | c ]`}, {n("index", n("index", dot, one), two), `. [ 1 ] [ 2 ]`}, {n("slice", a, one, two), `a [ 1 : 2 ]`}, {n("slice", a, none, two), `a [ : 2 ]`}, {n("slice", a, one, none), `a [ 1 : ]`}, {n("slice", n("neg", a), n("|", a, b), n(",", a, b)), `( - a ) [ a | b : a , b ]`}, {n("each", dot), `. [ ]`}, {n("each", n("|", a, b)), `( a | b ) [ ]`},
		{n("try", n("try", a)), `a ? ?`}, {n("try", a, b), `try a catch b`}, {n("try", n("try", a, b)), `( try a catch b ) ?`}, {n("try", n("try", a, b), n("try", c)), `try ( try a catch b ) catch c ?`}, {n("//", n("try", a), b), `a ? // b`},
		{n("num 0"), `0`}, {n("num 1.50"), `1.5`}, {n("num 1e1000"), `1e1000`}, {n("num 1e17"), `1e+17`}, {n("neg", n("num 1e1000")), `- 1e1000`},
		{n("str"), `""`}, {s("a\"\\\n\x01é"), `"a\"\\\n\u0001é"`}, {n("str @json"), `@json ""`}, {n("str @json", n("text a"), b, n("text  c "), n("|", a, n(",", b, c))), `@json "a\(b) c \(a | b , c)"`}, {n("str", a, b), `"\(a)\(b)"`}, {n("str", s("a")), `"\("a")"`}, {n("str", n("call f", a)), `"\(f ( a ))"`}, {n("format @base64d"), `@base64d`},
		{n("array"), `[ ]`}, {n("array", n("|", n(",", a, b), c)), `[ a , b | c ]`}, {n("object"), `{ }`}, {n("object", n("entry", s("a"), one)), `{ "a" : 1 }`}, {n("object", n("entry", n("str @text", a), dot), n("entry", vx, vx), n("entry", a, b), n("entry", n("|", a, b), n("|", a, b)), n("entry", n("loc 1"), n("neg", one))), `{ @text "\(a)" : . , $x : $x , ( a ) : b , ( a | b ) : ( a | b ) , ( $__loc__ ) : ( - 1 ) }`}, {n("object", n("entry", n("var a::b"), n("each", a))), `{ $a::b : a [ ] }`}, {n("object", n("entry", one, n("try", a, b)), n("entry", n("format @a"), n("if", a, b, none))), `{ ( 1 ) : ( try a catch b ) , ( @a ) : if a then b end }`},
		{n("neg", a), `- a`}, {n("neg", n("neg", a)), `- ( - a )`}, {n("neg", n("*", a, b)), `- a * b`}, {n("neg", n("+", a, b)), `- ( a + b )`}, {n("neg", n("try", a, b)), `- try a catch b`},
		{n("|", a, n("|", b, c)), `a | b | c`}, {n("|", n("|", a, b), c), `( a | b ) | c`}, {n("|", n(",", a, b), c), `a , b | c`}, {n(",", a, n("|", b, c)), `a , ( b | c )`}, {n(",", n(",", a, b), c), `a , b , c`}, {n(",", a, n(",", b, c)), `a , ( b , c )`}, {n("//", a, n("//", b, c)), `a // b // c`}, {n("//", n("//", a, b), c), `( a // b ) // c`}, {n("//", n("=", a, b), n("=", a, b)), `a = b // a = b`},
		{n("=", n("=", a, b), n("=", b, c)), `( a = b ) = ( b = c )`}, {n("//=", n("or", a, b), n("or", b, c)), `a or b //= b or c`}, {n("or", n("or", a, b), c), `a or b or c`}, {n("or", a, n("or", b, c)), `a or ( b or c )`}, {n("or", n("and", a, b), n("and", b, c)), `a and b or b and c`}, {n("and", n("or", a, b), n("or", b, c)), `( a or b ) and ( b or c )`}, {n("and", n("and", a, b), n("and", b, c)), `a and b and ( b and c )`},
		{n("<=", n("<", a, b), n("<", b, c)), `( a < b ) <= ( b < c )`}, {n("and", n("<", a, b), n("<", b, c)), `a < b and b < c`}, {n("==", n("+", a, b), n("-", a, b)), `a + b == a - b`}, {n("-", n("-", a, b), c), `a - b - c`}, {n("-", a, n("-", b, c)), `a - ( b - c )`}, {n("+", n("neg", a), n("neg", b)), `- a + - b`}, {n("*", n("+", a, b), n("-", b, c)), `( a + b ) * ( b - c )`}, {n("+", n("*", a, b), n("%", b, c)), `a * b + b % c`}, {n("/", n("/", a, b), n("/", b, c)), `a / b / ( b / c )`}, {n("*", n("neg", a), n("neg", b)), `( - a ) * ( - b )`}, {n("*", n("try", a, b), n("try", a, b)), `try a catch b * try a catch b`},
		{n("if", n("|", a, b), n("|", b, c), n("|", c, a)), `if a | b then b | c else c | a end`}, {n("if", a, b, none), `if a then b end`}, {n("if", a, b, n("if", b, c, none)), `if a then b else if b then c end end`},
		{n("reduce", n("each", dot), px, n("|", a, b), n(",", a, b)), `reduce . [ ] as $x ( a | b ; a , b )`}, {n("reduce", n("neg", a), n("bind", px, n("parray", py), px), a, b), `reduce ( - a ) as $x ?// [ $y ] ?// $x ( a ; b )`}, {n("foreach", a, px, b, c, none), `foreach a as $x ( b ; c )`}, {n("foreach", n("reduce", a, px, b, c), n("bind", px, py), n("|", a, b), n("def f", a, b), n("|", b, c)), `foreach reduce a as $x ( b ; c ) as $x ?// $y ( a | b ; def f : a ; b ; b | c )`},
		{bound(px), `. as $x | $x`}, {bound(px, py, px), `. as $x ?// $y ?// $x | $x`}, {n("bind", n("|", a, b), px, n("|", a, b)), `( a | b ) as $x | a | b`}, {n(",", a, n("bind", a, px, b)), `a , ( a as $x | b )`}, {n("|", a, n("bind", a, px, b)), `a | a as $x | b`}, {n("|", n("bind", a, px, b), a), `( a as $x | b ) | a`},
		{bound(n("parray", px)), `. as [ $x ] | $x`}, {bound(n("parray", px, n("parray", py, px), py)), `. as [ $x , [ $y , $x ] , $y ] | $x`}, {bound(n("pobject", n("pentry", px, none))), `. as { $x } | $x`}, {bound(n("pobject", n("pentry", px, n("parray", py)), n("pentry", s("a"), px), n("pentry", n("str @json", b), px))), `. as { $x : [ $y ] , "a" : $x , @json "\(b)" : $x } | $x`}, {bound(n("pobject", n("pentry", vx, py), n("pentry", n("|", a, b), n("pobject", n("pentry", py, none))))), `. as { ( $x ) : $y , ( a | b ) : { $y } } | $x`},
		{n("def f", a, b), `def f : a ; b`}, {n("def f", n("param g"), dollar("x"), dollar("if"), n("|", a, b), n("|", b, c)), `def f ( g ; $x ; $if ) : a | b ; b | c`}, {n("def f", n("def g", a, b), n("def h", a, b)), `def f : def g : a ; b ; def h : a ; b`}, {n("+", n("def f", a, b), one), `( def f : a ; b ) + 1`}, {n("call f", n("|", a, b), n(",", a, b), n("def g", a, b)), `f ( a | b ; a , b ; def g : a ; b )`}, {n("call a::f"), `a::f`}, {n("call a::b::f", one), `a::b::f ( 1 )`},
		{vx, `$x`}, {n("var if"), `$if`}, {n("var a::b"), `$a::b`}, {n("loc 3"), `$__loc__`}, {n("label x", n("|", a, n("break x"))), `label $x | a | break $x`}, {n("neg", n("label if", a)), `- ( label $if | a )`}, {n("try", n("break and")), `break $and ?`},
		{n("module", none, none), ``}, {n("module", none, n("|", a, b)), `a | b`}, {n("module", none, n("def f", a, none), none), `def f : a ;`}, {n("module", none, n("def f", a, none), n("def g", n("param x"), b, none), n("|", a, b)), `def f : a ; def g ( x ) : b ; a | b`}, {n("module", none, n("def f", a, none), n("def g", b, n("|", a, b))), `def f : a ; ( def g : b ; a | b )`}, {n("module", none, n("|", n("def f", a, b), c)), `( def f : a ; b ) | c`},
		{n("module", n("meta", n("object")), none), `module { } ;`}, {n("module", n("meta", data), a), `module { "k" : [ 1 , null , - 2 ] , "" : ( - 1 ) } ; a`}, {n("module", n("meta", n("object")), include("", none), include("a\"b", n("object")), brought("é", "f", 1, none), brought("a", "f", 1, data), brought("a", "if", 2, none), brought("a", "f", 2, n("object")), n("def f", a, none), dot), `module { } ; include "" ; include "a\"b" { } ; import "é" as f ; import "a" as f { "k" : [ 1 , null , - 2 ] , "" : ( - 1 ) } ; import "a" as $if ; import "a" as $f { } ; def f : a ; .`},
	} {
		checkText(t, w.x, w.want)
		checkTokens(t, w.x, textOf(w.x))
	}
}

// around answers trees in which an expression stands, one for each place of one in the table.
func around(x api.Node) []api.Node {
	out := []api.Node{
		n("index", x, a), n("index", a, x), n("slice", x, a, b), n("slice", a, x, b), n("slice", a, b, x), n("slice", a, none, x), n("slice", a, x, none), n("each", x), n("try", x), n("try", x, a), n("try", a, x), n("str", x), n("str @a", n("text b"), x), n("array", x), n("object", n("entry", x, a)), n("object", n("entry", a, x)), n("neg", x), n("if", x, a, b), n("if", a, x, b), n("if", a, b, x), n("if", a, x, none),
		n("reduce", x, px, a, b), n("reduce", a, px, x, b), n("reduce", a, px, b, x), n("foreach", x, px, a, b, c), n("foreach", a, px, x, b, c), n("foreach", a, px, b, x, c), n("foreach", a, px, b, c, x), n("foreach", a, px, b, x, none), n("reduce", a, n("bind", n("pobject", n("pentry", x, py)), px), b, c), n("bind", x, px, a), n("bind", a, px, x), n("bind", a, n("pobject", n("pentry", x, py)), a), n("def f", x, a), n("def f", a, x), n("call f", x), n("call f", a, x, b), n("label l", x), n("module", none, x), n("module", none, n("def f", a, none), x), n("module", none, n("def f", x, none), none),
	}
	for _, op := range strings.Fields("| , // or and = |= += -= *= /= %= //= == != < <= > >= + - * / %") {
		out = append(out, n(op, x, a), n(op, a, x))
	}
	return out
}

func TestEachExpressionInEachPlace(t *testing.T) {
	for _, x := range good() {
		checkTokens(t, x, textOf(x))
		if x.Kind == api.NModule {
			continue
		}
		for _, y := range around(x) {
			checkTokens(t, y, textOf(y))
			if z := n("*", y, n("neg", y)); y.Kind != api.NModule {
				checkTokens(t, z, textOf(z))
			}
		}
	}
}

func TestTokensOfManyTrees(t *testing.T) {
	r := rand.New(rand.NewSource(156))
	for range 8000 {
		x := spotted(someTree(r, r.Intn(5)), r)
		checkTokens(t, x, textOf(x))
	}
}

func TestTextOfNumbers(t *testing.T) {
	for f, want := range map[float64]string{0: "0", 1: "1", 0.1: "0.1", 1e-5: "1e-05", 5e-324: "5e-324", math.MaxFloat64: "1.7976931348623157e+308", math.Inf(1): "1e1000", 100: "100", 1e17: "1e+17"} {
		checkText(t, api.Node{Kind: api.NNumber, Num: f}, want)
	}
}

func TestTextOfManyTokens(t *testing.T) {
	const most = 65536
	for _, w := range []struct {
		parts int
		want  api.Errno
	}{{most/2 - 1, api.OK}, {most / 2, api.ErrArg}, {most, api.ErrArg}} {
		// a name, ( ) and ; between: one token more than twice the parts
		parts := make([]api.Node, w.parts)
		for i := range parts {
			parts[i] = dot
		}
		x := n("call f", parts...)
		tokens, e := syntax.Tokens(x)
		if len(tokens) != 2*w.parts+2 || e != api.OK {
			t.Errorf("%d tokens, %d, of %d parts", len(tokens), e, w.parts)
		}
		text, e := syntax.Text(x)
		want := ""
		if w.want == api.OK {
			want = "f ( " + strings.Repeat(". ; ", w.parts-1) + ". )"
		}
		if text != want || e != w.want {
			t.Errorf("%d parts: a text of %d bytes, %d, want %d bytes, %d", w.parts, len(text), e, len(want), w.want)
		}
	}
	// how long the text is is not looked at
	long := strings.Repeat("\x01", 1<<20)
	if text, e := syntax.Text(s(long)); len(text) != 2+6*len(long) || e != api.OK {
		t.Errorf("a text of %d bytes, %d", len(text), e)
	}
}
