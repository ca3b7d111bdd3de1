package lexer_test

import (
	"math"
	"math/rand"
	"strings"
	"testing"
	"unsafe"

	"colander/api"
	"colander/lexer"
	"colander/sample"
)

// P14.1

func TestNamesByHand(t *testing.T) {
	for _, s := range []string{"a", "Z", "_", "a1", "_1", "__loc__", "if", "a::b", "a::b::c", "if::end", "_::_", "aZ_09", "A::z9::__"} {
		if !lexer.Name(s) {
			t.Errorf("Name(%q) is false", s)
		}
	}
	for _, s := range []string{"", "1", "1a", "a::", "::a", "a::::b", "a:b", "a:::b", "a::1", "::", ":", "a b", " a", "a ", "a-b", "é", "aé", "a.b", ".a", "$a", "@a", "a\n", "a\x00", "a::b::", "[", "`", "{", "@", "/", "a\xff"} {
		if lexer.Name(s) {
			t.Errorf("Name(%q) is true", s)
		}
	}
	words := strings.Fields("def import include module if then elif else end as reduce foreach try catch label break and or __loc__")
	for _, s := range words {
		if !lexer.Word(s) {
			t.Errorf("Word(%q) is false", s)
		}
		for _, other := range []string{s + "s", s[1:], s[:len(s)-1], strings.ToUpper(s[:1]) + s[1:], s + " ", " " + s, s + "::a", "a::" + s, "$" + s, "." + s} {
			if lexer.Word(other) && other != "__loc__" {
				t.Errorf("Word(%q) is true", other)
			}
		}
	}
	for _, s := range []string{"", "not", "null", "true", "false", "empty", "error", "input", "__prog_args", "limit", "loc", "in", "with"} {
		if lexer.Word(s) {
			t.Errorf("Word(%q) is true", s)
		}
	}
}

func TestNamesOfShortTexts(t *testing.T) {
	sample.EachText([]string{"a", "Z", "_", "0", "9", ":", "::", ".", "$", " ", "\n", "é", "\xff", "if", "or"}, 4, func(s string) {
		if lexer.Name(s) != nameIs.MatchString(s) || lexer.Word(s) != wordIs.MatchString(s) {
			t.Errorf("Name, Word of %q are %v, %v", s, lexer.Name(s), lexer.Word(s))
		}
	})
	for c := range 256 {
		one, two := string([]byte{byte(c)}), string([]byte{'a', byte(c)})
		if lexer.Name(one) != nameIs.MatchString(one) || lexer.Name(two) != nameIs.MatchString(two) {
			t.Errorf("Name of byte %d", c)
		}
	}
}

func TestAt(t *testing.T) {
	sample.EachText([]string{"\n", "\r", "a", "é", "\xff"}, 5, func(s string) {
		for off := -2; off <= len(s)+2; off++ {
			if got, want := lexer.At(s, off), sample.SpotOf(s, off); got != want {
				t.Fatalf("At(%q, %d) = %v, want %v", s, off, got, want)
			}
		}
		if first, last := lexer.At(s, math.MinInt), lexer.At(s, math.MaxInt); first != sample.SpotOf(s, 0) || last != sample.SpotOf(s, len(s)) {
			t.Fatalf("At of %q far away is %v, %v", s, first, last)
		}
	})
	if got := lexer.At("ab\nc\n\nd", 4); got != (api.Spot{Line: 2, Col: 2, Off: 4}) {
		t.Error(got)
	}
}

// P14.2

// tokens makes tokens: numbers, and others of a kind's name and a text.
func tokens(parts ...any) []api.Token {
	var out []api.Token
	for _, p := range parts {
		switch x := p.(type) {
		case float64:
			out = append(out, api.Token{Kind: api.TokNumber, Num: x})
		case int:
			out = append(out, api.Token{Kind: api.TokNumber, Num: float64(x)})
		case string:
			kind, text, _ := strings.Cut(x, " ")
			for k := api.TokEnd; k <= api.TokClose; k++ {
				if kind == kindName(k) {
					out = append(out, api.Token{Kind: k, Text: text})
				}
			}
		}
	}
	return out
}

// signs are tokens of signs.
func signs(texts ...string) []api.Token {
	var out []api.Token
	for _, s := range texts {
		out = append(out, api.Token{Kind: api.TokSign, Text: s})
	}
	return out
}

func TestTokensByHand(t *testing.T) {
	for _, x := range []struct {
		s    string
		want []api.Token
	}{
		// the chapter's examples
		{`.a[1]|"x\(.b)y"`, tokens("field a", "sign [", 1, "sign ]", "sign |", "open", "text x", "into", "field b", "back", "text y", "close")},
		{"a::b", tokens("name a::b")}, {"a:: b", tokens("name a", "sign :", "sign :", "name b")}, {"$__loc__", tokens("var __loc__")},
		{"1.e3", tokens(1000)}, {"1..2", tokens(1, .2)}, {`"\ud83d\ude00"`, tokens("open", "text \U0001f600", "close")},
		// blanks and remarks
		{"", nil}, {" \t\r\n", nil}, {"#", nil}, {"# a \" \\ ' ^ \xff", nil}, {"#\n", nil}, {"#\ra", nil}, {"# \\\na", tokens("name a")}, {"a#b", tokens("name a")}, {"a#b\nc", tokens("name a", "name c")}, {"##\n#\n1", tokens(1)}, {"a\r\nb", tokens("name a", "name b")},
		// fields
		{".a", tokens("field a")}, {"._", tokens("field _")}, {".if", tokens("field if")}, {".a1.b", tokens("field a1", "field b")}, {".a::b", tokens("field a", "sign :", "sign :", "name b")}, {". a", tokens("sign .", "name a")}, {"..a", tokens("sign ..", "name a")}, {"...a", tokens("sign ..", "field a")}, {"....", tokens("sign ..", "sign ..")}, {".e1", tokens("field e1")}, {".__loc__", tokens("field __loc__")}, {".#a", tokens("sign .")}, {".[", tokens("sign .", "sign [")},
		// variables
		{"$a", tokens("var a")}, {"$if", tokens("var if")}, {"$a::b::c", tokens("var a::b::c")}, {"$a::", tokens("var a", "sign :", "sign :")}, {"$ a", tokens("sign $", "name a")}, {"$", tokens("sign $")}, {"$$a", tokens("sign $", "var a")}, {"$1", tokens("sign $", 1)}, {"$::a", tokens("sign $", "sign :", "sign :", "name a")}, {"$.a", tokens("sign $", "field a")},
		// names and words
		{"a:b", tokens("name a", "sign :", "name b")}, {"a:::b", tokens("name a", "sign :", "sign :", "sign :", "name b")}, {"a::1", tokens("name a", "sign :", "sign :", 1)}, {"a::b::", tokens("name a::b", "sign :", "sign :")}, {"::a", tokens("sign :", "sign :", "name a")},
		{"if", tokens("word if")}, {"iff", tokens("name iff")}, {"if::a", tokens("name if::a")}, {"a::if", tokens("name a::if")}, {"__loc__", tokens("word __loc__")}, {"not", tokens("name not")}, {"_and", tokens("name _and")}, {"or1", tokens("name or1")}, {"IF", tokens("name IF")}, {"and or", tokens("word and", "word or")},
		// numbers
		{"0", tokens(0)}, {"007", tokens(7)}, {"1.", tokens(1)}, {".5", tokens(.5)}, {"1.5", tokens(1.5)}, {"1e2", tokens(100)}, {"1E+2", tokens(100)}, {"1e-2", tokens(.01)}, {".5e1", tokens(5)}, {"1.5e1", tokens(15)}, {"1e1000", tokens(math.Inf(1))}, {"1e-1000", tokens(0)}, {"5e-324", tokens(5e-324)},
		{"1e", tokens(1, "name e")}, {"1e+", tokens(1, "name e", "sign +")}, {"1e-x", tokens(1, "name e", "sign -", "name x")}, {"1.e", tokens(1, "name e")}, {"1a", tokens(1, "name a")}, {"1.a", tokens(1, "name a")}, {"1.2.3", tokens(1.2, .3)}, {"1...2", tokens(1, "sign ..", 2)}, {"..1", tokens("sign ..", 1)}, {"...1", tokens("sign ..", .1)}, {"-1", tokens("sign -", 1)}, {"+1", tokens("sign +", 1)}, {"1e2e3", tokens(100, "name e3")}, {"1e2.5", tokens(100, .5)}, {"0x1", tokens(0, "name x1")}, {"1_0", tokens(1, "name _0")}, {"9007199254740993", tokens(9007199254740992.0)},
		// formats
		{"@json", tokens("format @json")}, {"@base64d", tokens("format @base64d")}, {"@1", tokens("format @1")}, {"@_", tokens("format @_")}, {"@a::b", tokens("format @a", "sign :", "sign :", "name b")}, {"@if", tokens("format @if")}, {`@text"a"`, tokens("format @text", "open", "text a", "close")},
		// signs
		{"?//=", signs("?//", "=")}, {"?/", signs("?", "/")}, {"///", signs("//", "/")}, {"///=", signs("//", "/=")}, {"//==", signs("//=", "=")}, {"|==", signs("|=", "=")}, {"===", signs("==", "=")}, {"!==", signs("!=", "=")}, {"<=>", signs("<=", ">")}, {">==", signs(">=", "=")}, {"<<", signs("<", "<")}, {"+-*/%", signs("+", "-", "*", "/", "%")}, {"|.|..|", signs("|", ".", "|", "..", "|")}, {"()[]{}:;,?$", signs("(", ")", "[", "]", "{", "}", ":", ";", ",", "?", "$")}, {"+=-=*=/=%=", signs("+=", "-=", "*=", "/=", "%=")}, {"||", signs("|", "|")}, {")))", signs(")", ")", ")")}, {"? //", signs("?", "//")}, {"/ /=", signs("/", "/=")}, {"? // ?//", signs("?", "//", "?//")},
		// strings
		{`""`, tokens("open", "close")}, {`"a"`, tokens("open", "text a", "close")}, {`"a""b"`, tokens("open", "text a", "close", "open", "text b", "close")}, {"\"a\nb\x00\t\"", tokens("open", "text a\nb\x00\t", "close")}, {`"#a" # b`, tokens("open", "text #a", "close")}, {`"é€😀"`, tokens("open", "text é€😀", "close")}, {`" "`, tokens("open", "text  ", "close")},
		{`"\"\\\/\b\f\n\r\t"`, tokens("open", "text \"\\/\b\f\n\r\t", "close")}, {`"\u0041\u00e9\u20aC\uFFFF\u0000"`, tokens("open", "text Aé€\uffff\x00", "close")}, {`"a\\u0041"`, tokens("open", `text a\u0041`, "close")},
		{`"\ud83d"`, tokens("open", "text \ufffd", "close")}, {`"\ude00\ud83d"`, tokens("open", "text \ufffd\ufffd", "close")}, {`"\ud83d\ud83d\ude00"`, tokens("open", "text \ufffd\U0001f600", "close")}, {`"\ud83dx\ude00"`, tokens("open", "text \ufffdx\ufffd", "close")}, {`"\ud83d\u0041"`, tokens("open", "text \ufffdA", "close")}, {`"\uD800\uDC00\uDBFF\uDFFF"`, tokens("open", "text \U00010000\U0010ffff", "close")}, {`"\ud7ff\ue000"`, tokens("open", "text \ud7ff\ue000", "close")},
		{"\"\xff\xe2\x82\"", tokens("open", "text \ufffd\ufffd\ufffd", "close")}, {"\"\xed\xa0\x80\"", tokens("open", "text \ufffd\ufffd\ufffd", "close")}, {"\"\xc3\\n\xa9\"", tokens("open", "text \ufffd\n\ufffd", "close")}, {"#\xff\n\"\xff\"", tokens("open", "text \ufffd", "close")},
		// what is interpolated
		{`"\()"`, tokens("open", "into", "back", "close")}, {`"\(1)"`, tokens("open", "into", 1, "back", "close")}, {`"a\( 1 )b"`, tokens("open", "text a", "into", 1, "back", "text b", "close")}, {`"\(1)\(2)"`, tokens("open", "into", 1, "back", "into", 2, "back", "close")},
		{`"\((1))"`, tokens("open", "into", "sign (", 1, "sign )", "back", "close")}, {`"\(())())"`, tokens("open", "into", "sign (", "sign )", "back", "text ())", "close")}, {`"\("a")"`, tokens("open", "into", "open", "text a", "close", "back", "close")}, {`"\("\("a")")"`, tokens("open", "into", "open", "into", "open", "text a", "close", "back", "close", "back", "close")}, {`("\(("\()"))")`, tokens("sign (", "open", "into", "sign (", "open", "into", "back", "close", "sign )", "back", "close", "sign )")},
		{"\"\\(1#)\"\n)\"", tokens("open", "into", 1, "back", "close")}, {`"\([)])"`, tokens("open", "into", "sign [", "back", "text ])", "close")}, {`"\(a(b;c))"`, tokens("open", "into", "name a", "sign (", "name b", "sign ;", "name c", "sign )", "back", "close")}, {`"\\("`, tokens("open", `text \(`, "close")},
	} {
		l, f := lexer.Scan(x.s)
		if n := len(l) - 1; f.Code != 0 || n < 0 || l[n] != (api.Token{At: sample.SpotOf(x.s, len(x.s))}) || !sameTokens(bare(l), x.want) {
			t.Errorf("Scan(%q) = %v, %v, want %v", x.s, l, f, x.want)
		}
		checkScan(t, x.s)
	}
}

func TestSpotsByHand(t *testing.T) {
	at := func(line, col, off int) api.Spot { return api.Spot{Line: line, Col: col, Off: off} }
	for s, want := range map[string][]api.Spot{
		"":                     {at(1, 1, 0)},
		"\n\n ":                {at(3, 2, 3)},
		".a\n  [1]":            {at(1, 1, 0), at(2, 3, 5), at(2, 4, 6), at(2, 5, 7), at(2, 6, 8)},
		"#\xff\xff\nb":         {at(2, 1, 4), at(2, 2, 5)},
		"\"é\xffx\\(a)\\n\\(":  nil,
		"\"é\xff\\n\\(a)x\" b": {at(1, 1, 0), at(1, 2, 1), at(1, 7, 6), at(1, 9, 8), at(1, 10, 9), at(1, 11, 10), at(1, 12, 11), at(1, 14, 13), at(1, 15, 14)},
		"\"a\nb\n\" c":         {at(1, 1, 0), at(1, 2, 1), at(3, 1, 5), at(3, 3, 7), at(3, 4, 8)},
		"a\r\n@b $c .5":        {at(1, 1, 0), at(2, 1, 3), at(2, 4, 6), at(2, 7, 9), at(2, 9, 11)},
	} {
		l, _ := lexer.Scan(s)
		if len(l) != len(want) {
			t.Errorf("Scan(%q) = %v", s, l)
			continue
		}
		for i := range l {
			if l[i].At != want[i] {
				t.Errorf("Scan(%q): token %d is at %v, want %v", s, i, l[i].At, want[i])
			}
		}
	}
}

func TestFaultsByHand(t *testing.T) {
	for _, x := range []struct {
		s    string
		code api.Errno
		off  int
	}{
		{`"a`, 141, 0}, {`"\q"`, 141, 1}, {"^", 140, 0},
		{"!", 140, 0}, {"a!b", 140, 1}, {"&", 140, 0}, {"~", 140, 0}, {"'", 140, 0}, {"`", 140, 0}, {`\`, 140, 0}, {"@", 140, 0}, {"@ a", 140, 0}, {"@é", 140, 0}, {"1 \x00", 140, 2}, {"\x0b", 140, 0}, {"\x0c", 140, 0}, {"é", 140, 0}, {"aé", 140, 1}, {"\n\xff", 140, 1}, {"\ufeff.", 140, 0}, {"\u00a0", 140, 0}, {"$é", 140, 1}, {".é", 140, 1}, {"\x7f", 140, 0}, {"= !", 140, 2},
		{`"`, 141, 0}, {`a "`, 141, 2}, {`"" "b`, 141, 3}, {`"\("a`, 141, 3}, {`"\("a"`, 141, 0}, {`"\(`, 141, 0}, {`"\(a`, 141, 0}, {`"\((a)`, 141, 0}, {`"\(a)`, 141, 0}, {`"\(a" \(`, 141, 4}, {`"\("\("\(`, 141, 6}, {"\"\\(#)\"", 141, 0}, {"\n \"a\nb", 141, 2}, {`"\"`, 141, 0},
		{`"\`, 141, 1}, {`"a\`, 141, 2}, {`"\a"`, 141, 1}, {`"\'"`, 141, 1}, {`"\U0041"`, 141, 1}, {`"\u"`, 141, 1}, {`"\u004"`, 141, 1}, {`"\u004g"`, 141, 1}, {`"\u+041"`, 141, 1}, {`"\u 041"`, 141, 1}, {`"\u0_41"`, 141, 1}, {`"\u00`, 141, 1}, {`"\ud83d\u"`, 141, 7}, {`"\ud83d\q"`, 141, 7}, {"\"\\\n\"", 141, 1}, {"\"\\é\"", 141, 1}, {"\"\\\xff\"", 141, 1}, {`"\)"`, 141, 1}, {`"\x41"`, 141, 1}, {`"\("\q")"`, 141, 4}, {`"ok" "\v"`, 141, 6},
		// what stands ahead is first
		{`^ "a`, 140, 0}, {`"\(^`, 140, 3}, {`"\(^ "\q`, 140, 3}, {`"\("\q^`, 141, 4}, {`"\q^`, 141, 1}, {`"\(!)"`, 140, 3}, {`"a\(@)`, 140, 4}, {`"a" ^ "\q"`, 140, 4}, {`"\q" ^`, 141, 1}, {`"\(\q)"`, 140, 3},
	} {
		l, f := lexer.Scan(x.s)
		if want := (api.Fault{Code: x.code, At: sample.SpotOf(x.s, x.off)}); len(l) != 0 || f != want {
			t.Errorf("Scan(%q) = %v, %v, want %v", x.s, l, f, want)
		}
		checkScan(t, x.s)
	}
}

func TestScanOfEachByte(t *testing.T) {
	for c := range 256 {
		b := string([]byte{byte(c)})
		for _, s := range []string{b, "a" + b, b + "a", "1" + b, "." + b, "." + b + "a", "$" + b, "@" + b, "#" + b + "a", `"` + b + `"`, `"\` + b + `"`, `"\u00` + b + `0"`, `"\(` + b + `)"`, "/" + b, "?/" + b, "a::" + b, "1e" + b, "1e+" + b, "\"a" + b, "a" + b + "b"} {
			checkScan(t, s)
		}
	}
}

func TestScanOfShortTexts(t *testing.T) {
	for _, x := range []struct {
		n      int
		pieces string
	}{
		{7, `" \ ( ) a`}, {5, "\" \\( ( ) # \n [ \\"}, {7, "1 . e + a"}, {6, "a : :: $ . 1 @"}, {6, "? / = | < !"}, {4, "! = / | + - * % < > . ? $"},
		{6, `" \u d83d \ud83d \ude00 \u00e9`}, {5, "if :: a . $ @ 1 #"}, {5, "\" \xc3 \xa9 \xff \\ n \n"},
	} {
		pieces := append(strings.Split(x.pieces, " "), " ")
		sample.EachText(pieces, x.n-1, func(s string) { checkScan(t, s) })
		sample.EachText(pieces[:len(pieces)-1], x.n, func(s string) { checkScan(t, s) })
	}
}

// someProgram is a text of pieces of programs.
func someProgram(r *rand.Rand) string {
	pieces := []string{`"`, `"`, `"`, `\(`, `\(`, ")", ")", "(", "a", ".b", "$c", "@d", "1.5", "1e9", "..", ".", "//=", "?//", "?", "/", "|", "=", "if", "end", "::", ":", "#", "\n", " ", "\t", `\n`, `\"`, `\\`, `\u00e9`, `\ud83d`, `\ude00`, "é", "\xff", "x y", "{", "}", "[0]", "a::b"}
	if r.Intn(3) == 0 {
		pieces = append(pieces, "^", "!", `\`, `\q`, "\x00", "@")
	}
	var out strings.Builder
	for range r.Intn(30) {
		out.WriteString(pieces[r.Intn(len(pieces))])
	}
	return out.String()
}

func TestScanOfSomeTexts(t *testing.T) {
	r := rand.New(rand.NewSource(141))
	for range 60000 {
		checkScan(t, someProgram(r))
	}
}

// checkFault holds Scan to a fault of a text that is too long for the model.
func checkFault(t *testing.T, what, s string, code api.Errno, off int) {
	t.Helper()
	l, f := lexer.Scan(s)
	if want := (api.Fault{Code: code, At: lexer.At(s, off)}); len(l) != 0 || f != want {
		t.Errorf("Scan of %s: %d tokens, %v, want %v", what, len(l), f, want)
	}
}

func TestLongTexts(t *testing.T) {
	for what, s := range map[string]string{
		"blanks":    strings.Repeat("\n", api.MaxText),
		"a remark":  "#" + strings.Repeat("\xff", api.MaxText-1),
		"a name":    strings.Repeat("a::", api.MaxText/3) + "a",
		"a number":  strings.Repeat("1", api.MaxText),
		"a string":  `"` + strings.Repeat("\xff", api.MaxText-2) + `"`,
		"escapes":   `"` + strings.Repeat(`\n`, api.MaxText/2-1) + `"`,
		"an empty":  "",
		"long line": strings.Repeat(" ", api.MaxText-1) + ".",
	} {
		l, f := lexer.Scan(s)
		if f != (api.Fault{}) || len(l) == 0 || l[len(l)-1].At.Off != len(s) {
			t.Errorf("Scan of %s: %d tokens, %v", what, len(l), f)
		}
	}
	for what, s := range map[string]string{"blanks": strings.Repeat("\n", api.MaxText+1), "no token": strings.Repeat("^", api.MaxText+1), "a string without end": strings.Repeat(`"`, api.MaxText+1)} {
		if l, f := lexer.Scan(s); len(l) != 0 || f != (api.Fault{Code: api.ErrTokens}) {
			t.Errorf("Scan of too many %s: %d tokens, %v", what, len(l), f)
		}
	}
}

func TestManyTokens(t *testing.T) {
	const most = api.MaxTokens
	full := strings.Repeat(".\n", most)
	if l, f := lexer.Scan(full); f != (api.Fault{}) || len(l) != most+1 || l[most].At != (api.Spot{Line: most + 1, Col: 1, Off: len(full)}) {
		t.Errorf("%d tokens, %v", len(l), f)
	}
	for _, s := range []string{"a", ".", ".a", "$a", "if", "1", "@a", `"`, `""`, `"a`, ")", "a ^", `. "\q"`} {
		checkFault(t, "one more: "+s, full+" "+s, api.ErrTokens, len(full)+1)
	}
	for _, s := range []string{" ", "#a", "\n"} {
		if l, f := lexer.Scan(full + s); f != (api.Fault{}) || len(l) != most+1 {
			t.Errorf("and %q: %d tokens, %v", s, len(l), f)
		}
	}
	checkFault(t, "no token behind", full+"^", api.ErrToken, len(full))
	// what stands ahead of the token that is one too many, and what stands behind it
	checkFault(t, "no token ahead", "^"+full+".", api.ErrToken, 0)
	checkFault(t, "a string without end round it", `"\(`+full, api.ErrTokens, 3+2*(most-2))
	checkFault(t, "a string without end round less", `"\(`+full[:2*(most-2)], api.ErrQuote, 0)
}

func TestManyTokensInStrings(t *testing.T) {
	const most = api.MaxTokens
	ahead := strings.Repeat(". ", most-1)
	n := len(ahead)
	// the string's quote is the last token that may be
	checkFault(t, "an end", ahead+`""`, api.ErrTokens, n+1)
	checkFault(t, "a piece", ahead+`"a"`, api.ErrTokens, n+1)
	checkFault(t, "a piece and more", ahead+`"a\(`, api.ErrTokens, n+1)
	checkFault(t, "a piece with a bad escape", ahead+`"a\q"`, api.ErrQuote, n+2)
	checkFault(t, "a piece of an escape and a bad escape", ahead+`"\n\u12"`, api.ErrQuote, n+3)
	checkFault(t, "a piece without end", ahead+`"a`, api.ErrQuote, n)
	checkFault(t, "no piece and no end", ahead+`"`, api.ErrQuote, n)
	checkFault(t, "what is interpolated", ahead+`"\(`, api.ErrTokens, n+1)
	checkFault(t, "a bad escape at once", ahead+`"\q`, api.ErrQuote, n+1)
	// and what is within it
	ahead = ahead[2:]
	n = len(ahead)
	checkFault(t, "a token within", ahead+`"\(a`, api.ErrTokens, n+3)
	checkFault(t, "no token within", ahead+`"\(^`, api.ErrToken, n+3)
	checkFault(t, "the way back", ahead+`"\( )"`, api.ErrTokens, n+4)
	checkFault(t, "no way back", ahead+`"\( `, api.ErrQuote, n)
	ahead = ahead[2:]
	n = len(ahead)
	checkFault(t, "the end behind it", ahead+`"\()"`, api.ErrTokens, n+4)
	checkFault(t, "no end behind it", ahead+`"\()`, api.ErrQuote, n)
	ahead = ahead[2:]
	if l, f := lexer.Scan(ahead + `"\()"`); f != (api.Fault{}) || len(l) != most+1 {
		t.Errorf("%d tokens, %v", len(l), f)
	}
}

func TestDeepStrings(t *testing.T) {
	const levels = api.MaxTokens / 4
	begin, end := strings.Repeat(`"\(`, levels), strings.Repeat(`)"`, levels)
	if l, f := lexer.Scan(begin + end); f != (api.Fault{}) || len(l) != api.MaxTokens+1 || l[2*levels].Kind != api.TokBack {
		t.Errorf("%d tokens, %v", len(l), f)
	}
	checkFault(t, "strings without end", begin+end[2:], api.ErrQuote, 0)
	checkFault(t, "strings without any end", begin+begin, api.ErrQuote, 3*(2*levels-1))
	checkFault(t, "too many strings", begin+begin+begin, api.ErrTokens, 3*2*levels)
}

func TestScanSharesNothing(t *testing.T) {
	s := strings.Clone("name .field $var if @format + \"text\"")
	l, f := lexer.Scan(s)
	if f.Code != 0 {
		t.Fatal(f)
	}
	from := uintptr(unsafe.Pointer(unsafe.StringData(s)))
	for _, x := range l {
		at := uintptr(unsafe.Pointer(unsafe.StringData(x.Text)))
		if x.Text != "" && at >= from && at < from+uintptr(len(s)) {
			t.Errorf("%v stands in the text's memory", x)
		}
	}
	again, _ := lexer.Scan(s)
	l[0].Text = "x"
	if again[0].Text != "name" {
		t.Error("two answers share memory")
	}
}
