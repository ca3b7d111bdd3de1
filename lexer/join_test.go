package lexer_test

import (
	"math"
	"math/rand"
	"strings"
	"testing"
	"unsafe"

	"colander/api"
	"colander/lexer"
)

// P14.3

func TestJoinByHand(t *testing.T) {
	for _, x := range []struct {
		l    []api.Token
		want string
	}{
		{nil, ""}, {tokens("end"), ""}, {tokens("name a"), "a"}, {tokens("name a", "end"), "a"}, {tokens("name a", "name b"), "a b"}, {tokens("name a::b"), "a::b"},
		{tokens("field a", "field if"), ".a .if"}, {tokens("var a::b", "var if", "var __loc__"), "$a::b $if $__loc__"}, {tokens("word if", "name iff"), "if iff"}, {tokens("format @json", "open", "close"), `@json ""`},
		{tokens("sign .", "name a"), ". a"}, {tokens("sign ..", "sign ."), ".. ."}, {tokens("sign )", "sign ("), ") ("}, {tokens("sign $", "name a"), "$ a"}, {tokens("sign ?", "sign //"), "? //"}, {tokens("sign ?//"), "?//"},
		{tokens(0), "0"}, {tokens(1.5), "1.5"}, {tokens(1e-5), "1e-05"}, {tokens(1e16), "1e+16"}, {tokens(1e17), "1e+17"}, {tokens(math.Inf(1)), "1e1000"}, {tokens(math.MaxFloat64), "1.7976931348623157e+308"}, {tokens(5e-324), "5e-324"}, {tokens(1, "sign .", 2), "1 . 2"},
		{tokens("open", "close"), `""`}, {tokens("open", "text a", "close"), `"a"`}, {tokens("name a", "open", "close", "name b"), `a "" b`}, {tokens("open", "into", "back", "close"), `"\()"`},
		{tokens("open", "text a", "into", "name b", "name c", "back", "text d", "into", 1, "back", "into", 2, "back", "close", "sign ."), `"a\(b c)d\(1)\(2)" .`},
		{tokens("open", "into", "sign (", "sign )", "back", "close"), `"\(( ))"`}, {tokens("open", "into", "open", "text a", "close", "back", "close"), `"\("a")"`}, {tokens("open", "into", "open", "close", "open", "close", "back", "close"), `"\("" "")"`},
		{tokens("open", "text \"\\/\b\f\n\r\t\x00\x1f\x20\x7e\x7f\u0080é😀\ufffd", "close"), `"\"\\/\u0008\u000c\n\u000d\u0009\u0000\u001f ~\u007f` + "\u0080é😀\ufffd" + `"`}, {tokens("open", `text \(a)`, "close"), `"\\(a)"`}, {tokens("open", `text \u0041#`, "close"), `"\\u0041#"`},
	} {
		s, e := lexer.Join(x.l)
		if s != x.want || e != 0 {
			t.Errorf("Join(%v) = %q, %d, want %q", x.l, s, e, x.want)
		}
		again, f := lexer.Scan(s)
		if f.Code != 0 || !sameTokens(bare(again), bare(x.l)) {
			t.Errorf("Scan(%q) = %v, %v", s, again, f)
		}
	}
}

func TestJoinLooksAtNoSpots(t *testing.T) {
	l := tokens("name a", "open", "text b", "close", "end")
	for i := range l {
		l[i].At = api.Spot{Line: -i, Col: 7, Off: math.MinInt}
	}
	if s, e := lexer.Join(l); s != `a "b"` || e != 0 {
		t.Error(s, e)
	}
}

// badTokens may not stand anywhere.
func badTokens() []api.Token {
	var out []api.Token
	bad := map[api.TokenKind][]string{
		api.TokEnd:    {"a", " "},
		api.TokName:   {"", "if", "__loc__", "1", "a ", " a", "a b", "a::", "::a", "a:b", ".a", "$a", "a#", "a\n", "é", "\"\"", "a.b", "#", "a\x00"},
		api.TokField:  {"", "1", "a::b", ".a", "a.b", "a ", " a", "é", ".", "\"a\"", "[", "a#b"},
		api.TokVar:    {"", "1", "a::", "$a", " a", "a ", "é", "a.b", "::a"},
		api.TokWord:   {"", "iff", "a", "not", " if", "if ", "if then", "IF", "if::a"},
		api.TokNumber: {"1", "a", " "},
		api.TokFormat: {"", "json", "@", "@ a", "@a ", "@a b", "@é", "@@a", "@a::b", "@a-b"},
		api.TokSign:   {"", " ", "!", "&", "+ ", " +", "==/", "...", "?/", "||", "a", "1", "\"", "#", "///", "\n", "?//=", "::", "()", "\\("},
		api.TokOpen:   {`"`, "a"},
		api.TokText:   {"", "\xff", "a\xff", "\xed\xa0\x80", "\xe2\x82"},
		api.TokInto:   {`\(`, "a"},
		api.TokBack:   {")", "a"},
		api.TokClose:  {`"`, "a"},
	}
	for k := api.TokEnd; k <= api.TokClose; k++ {
		for _, s := range bad[k] {
			out = append(out, api.Token{Kind: k, Text: s})
		}
		good := map[api.TokenKind]string{api.TokName: "a", api.TokField: "a", api.TokVar: "a", api.TokWord: "if", api.TokFormat: "@a", api.TokSign: "+", api.TokText: "a"}[k]
		for _, f := range []float64{1, -1, math.Copysign(0, -1), math.NaN(), math.Inf(1), math.Inf(-1)} {
			if k != api.TokNumber || !(f > 0) {
				out = append(out, api.Token{Kind: k, Text: good, Num: f})
			}
		}
	}
	return append(out, api.Token{Kind: 13}, api.Token{Kind: -1}, api.Token{Kind: 13, Text: "a"}, api.Token{Kind: math.MaxInt, Text: "a"}, api.Token{Kind: math.MinInt})
}

func TestBadTokens(t *testing.T) {
	for _, bad := range badTokens() {
		for _, l := range [][]api.Token{{bad}, {bad, {}}, {{}, bad}, append(tokens("name a"), bad), append(tokens("open"), bad, api.Token{Kind: api.TokClose}), append(tokens("open", "into"), bad, api.Token{Kind: api.TokBack}, api.Token{Kind: api.TokClose})} {
			if s, e := lexer.Join(l); s != "" || e != api.ErrArg {
				t.Errorf("Join(%v) = %q, %d", l, s, e)
			}
		}
	}
}

func TestBadRows(t *testing.T) {
	for _, l := range [][]api.Token{
		tokens("end", "end"), tokens("end", "name a"), tokens("name a", "end", "end"), tokens("open"), tokens("close"), tokens("text a"), tokens("into"), tokens("back"), tokens("open", "end", "close"), tokens("open", "close", "close"),
		tokens("open", "text a", "text b", "close"), tokens("open", "name a", "close"), tokens("open", "open", "close", "close"), tokens("open", "back", "close"), tokens("open", "into", "close"), tokens("open", "into", "back"), tokens("open", "into", "close", "back"), tokens("open", "into", "sign )", "close"), tokens("open", "into", "sign (", "back", "close"), tokens("open", "into", "sign )", "back", "close"), tokens("open", "into", "back", "back", "close"), tokens("open", "into", "text a", "back", "close"), tokens("open", "into", "sign (", "sign )", "sign )", "back", "close"), tokens("open", "text a", "end"),
	} {
		if s, e := lexer.Join(l); s != "" || e != api.ErrArg {
			t.Errorf("Join(%v) = %q, %d", l, s, e)
		}
	}
}

// eachRow does something with all rows of up to n of the tokens.
func eachRow(of []api.Token, n int, do func([]api.Token)) {
	row := make([]api.Token, 0, n)
	var goOn func()
	goOn = func() {
		do(row)
		if len(row) == n {
			return
		}
		for _, t := range of {
			row = append(row, t)
			goOn()
			row = row[:len(row)-1]
		}
	}
	goOn()
}

func TestJoinOfShortRows(t *testing.T) {
	eachRow(tokens("name a", "open", "text b", "into", "back", "close", "sign (", "sign )", "end"), 5, func(l []api.Token) { checkJoin(t, l) })
	eachRow(tokens("open", "text b", "into", "back", "close", "sign (", "sign )"), 6, func(l []api.Token) { checkJoin(t, l) })
	eachRow(tokens("open", "into", "back", "close"), 8, func(l []api.Token) { checkJoin(t, l) })
}

// outer are tokens that may stand side by side in any way.
func outer() []api.Token {
	l := tokens("name a", "name e1", "name a::b", "field a", "var a", "word if", "word __loc__", "format @a", "open", 1, .5, 0, 1e300, math.Inf(1))
	return append(l[:len(l):len(l)], signs(strings.Fields("!= == //= // |= += -= *= /= %= <= >= .. ?// < > = + - * / % | , . [ ] ( ) { } : ; ? $")...)...)
}

func TestJoinOfAllPairs(t *testing.T) {
	eachRow(outer(), 2, func(l []api.Token) {
		var whole []api.Token
		for _, x := range l {
			whole = append(whole, x)
			if x.Kind == api.TokOpen {
				whole = append(whole, api.Token{Kind: api.TokClose})
			}
		}
		if !mayBe(whole) {
			t.Fatal("a row that may be is none to the model:", whole)
		}
		checkJoin(t, whole)
	})
}

func TestJoinOfEachCodePoint(t *testing.T) {
	for p := rune(0); p <= 0x10ffff; p++ {
		if p >= 0xd800 && p <= 0xdfff || p > 0x3000 && p%97 != 0 && p < 0x10fff0 {
			continue
		}
		checkJoin(t, tokens("open", "text "+string(p), "close"))
		checkJoin(t, tokens("open", "text a"+string(p)+"b", "close"))
	}
}

func TestJoinOfManyTokens(t *testing.T) {
	const most = api.MaxTokens
	l := make([]api.Token, most, most+1)
	for i := range l {
		l[i] = api.Token{Kind: api.TokSign, Text: "."}
	}
	want := strings.Repeat(". ", most-1) + "."
	for _, row := range [][]api.Token{l, append(l, api.Token{})} {
		if s, e := lexer.Join(row); s != want || e != 0 {
			t.Errorf("Join of %d tokens: %d bytes, %d", len(row), len(s), e)
		}
	}
	if s, e := lexer.Join(append(l, l[0])); s != "" || e != api.ErrArg {
		t.Errorf("Join of one token too many: %d bytes, %d", len(s), e)
	}
	// how long the text would be is not looked at
	long := strings.Repeat("\x00", api.MaxText)
	if s, e := lexer.Join(tokens("open", "text "+long, "close")); len(s) != 2+6*api.MaxText || e != 0 {
		t.Errorf("Join of a long piece: %d bytes, %d", len(s), e)
	}
}

func TestJoinSharesNothing(t *testing.T) {
	l := tokens("name abc")
	l[0].Text = strings.Clone("abc")
	s, _ := lexer.Join(l)
	if unsafe.StringData(s) == unsafe.StringData(l[0].Text) {
		t.Error("the text stands in a token's memory")
	}
	if l[0] != tokens("name abc")[0] {
		t.Error("the token is changed")
	}
}

// P14.4

// someTokens is a row that may be.
func someTokens(r *rand.Rand, levels int) []api.Token {
	var out []api.Token
	single := outer()
	for range r.Intn(6) {
		switch x := single[r.Intn(len(single))]; {
		case x.Kind != api.TokOpen && x.Text != "(" && x.Text != ")":
			out = append(out, x)
		case levels > 0 && r.Intn(3) == 0:
			out = append(append(append(out, signs("(")...), someTokens(r, levels-1)...), signs(")")...)
		case levels > 0:
			out = append(out, someString(r, levels-1)...)
		}
	}
	return out
}

func someString(r *rand.Rand, levels int) []api.Token {
	out := tokens("open")
	for range r.Intn(4) {
		if out[len(out)-1].Kind != api.TokText && r.Intn(2) == 0 {
			texts := []string{"a", "\n", "\"", "\\", "é", " # ", "\\(", ")", "\\u0041", "\x00\x7f", "😀\ufffd", "'"}
			out = append(out, tokens("text "+texts[r.Intn(len(texts))]+texts[r.Intn(len(texts))])...)
			continue
		}
		out = append(append(append(out, tokens("into")...), someTokens(r, levels)...), tokens("back")...)
	}
	return append(out, tokens("close")...)
}

// someBlanks are blanks and remarks, one at least.
func someBlanks(r *rand.Rand) string {
	blanks := []string{" ", "\t", "\n", "\r", "#\n", "# a \" ) \xff\n", "  ", "\r\n", "#\r\n"}
	out := blanks[r.Intn(len(blanks))]
	for r.Intn(2) == 0 {
		out += blanks[r.Intn(len(blanks))]
	}
	return out
}

func TestBlanksTurnSpotsAlone(t *testing.T) {
	r := rand.New(rand.NewSource(144))
	for range 20000 {
		l := someTokens(r, 4)
		checkJoin(t, l)
		thick, quoted := "", false
		var places []int
		for _, x := range l {
			if !quoted {
				thick += someBlanks(r)
			}
			places = append(places, len(thick))
			quoted = x.Kind == api.TokOpen || x.Kind == api.TokText || x.Kind == api.TokBack
			thick += alone(x)
		}
		thick += someBlanks(r)
		got, f := lexer.Scan(thick)
		if f.Code != 0 || !sameTokens(bare(got), l) {
			t.Fatalf("Scan(%q) = %v, %v, want %v", thick, got, f, l)
		}
		for i, at := range places {
			if got[i].At != lexer.At(thick, at) {
				t.Fatalf("Scan(%q): %v, want it at %d", thick, got[i], at)
			}
		}
	}
}

// alone is a token as Join writes it.
func alone(x api.Token) string {
	switch x.Kind {
	case api.TokOpen, api.TokClose:
		return `"`
	case api.TokInto:
		return `\(`
	case api.TokBack:
		return ")"
	case api.TokText:
		s, _ := lexer.Join(append(append(tokens("open"), x), tokens("close")...))
		return s[1 : len(s)-1]
	}
	s, _ := lexer.Join([]api.Token{x})
	return s
}
