package regex_test

import (
	"math/rand"
	"slices"
	"strings"
	"testing"
	"unsafe"

	"colander/api"
	"colander/regex"
)

// checkTree holds Parse to a tree, in plain or in extended patterns.
func checkTree(t *testing.T, s string, extended bool, want api.Pat) {
	t.Helper()
	p, at, e := regex.Parse(s, extended)
	if !same(p, want) || at != 0 || e != api.OK {
		t.Errorf("Parse(%q, %v) = %s, %d, %d, want %s", s, extended, shown(p), at, e, shown(want))
	}
}

// checkFault holds Parse to a refusal at a byte.
func checkFault(t *testing.T, s string, extended bool, want int) {
	t.Helper()
	p, at, e := regex.Parse(s, extended)
	if !same(p, api.Pat{}) || at != want || e != api.ErrPat {
		t.Errorf("Parse(%q, %v) = %s, %d, %d, want a refusal at %d", cut(s), extended, shown(p), at, e, want)
	}
}

func cut(s string) string {
	const most = 200
	if len(s) > most {
		return s[:most] + ".."
	}
	return s
}

// P9.2

func TestTreesByHand(t *testing.T) {
	for _, x := range []struct {
		s    string
		want api.Pat
	}{
		// the chapter's examples
		{"a|b*c", alt(a, seq(star(b), c))},
		{`(?<y>\d{4})-\k<y>`, seq(group(1, "y", rep(4, 4, 0, set('0', '9'))), char('-'), backTo("y"))},
		{"a{", seq(a, char('{'))},
		{`[^\s\d]`, notSet(9, 13, 32, 32, 48, 57)},
		// sequences and choices
		{"", empty}, {"a", a}, {"ab", seq(a, b)}, {"|", alt(empty, empty)}, {"a|", alt(a, empty)}, {"|a", alt(empty, a)}, {"a||b", alt(a, empty, b)}, {"a|b|c", alt(a, b, c)},
		{"()", group(1, "", empty)}, {"(|)", group(1, "", alt(empty, empty))}, {"(a|b)c", seq(group(1, "", alt(a, b)), c)},
		{"(?:)", empty}, {"(?:(?:))", empty}, {"a(?:)", seq(a, empty)}, {"(?:)(?:)", seq(empty, empty)}, {"(?:a)", a}, {"(?:ab)", seq(a, b)}, {"(?:a|b)", alt(a, b)},
		{"a(?:bc)a", seq(a, seq(b, c), a)}, {"(?:ab)(?:bc)", seq(seq(a, b), seq(b, c))}, {"(?:a|b)|c", alt(alt(a, b), c)}, {"(?:a|b)c", seq(alt(a, b), c)}, {"(?:ab)|c", alt(seq(a, b), c)}, {"(?:(?:ab))c", seq(seq(a, b), c)},
		// what is a code point
		{"]", char(']')}, {"}", char('}')}, {"{", char('{')}, {"a]}", seq(a, char(']'), char('}'))}, {"-&:,<>=!#'\" ", chars("-&:,<>=!#'\" ")}, {"\n\t\x00", chars("\n\t\x00")}, {"é€😀", chars("é€😀")},
		{"\xff", char(65533)}, {"\xe2\x82", seq(char(65533), char(65533))}, {"\xed\xa0\x80a", seq(char(65533), char(65533), char(65533), a)}, {"\ufffd", char(65533)}, {"\xff*", star(char(65533))}, {"é*", star(char('é'))},
		{".", dot}, {"..", seq(dot, dot)}, {".*", star(dot)},
		// escapes
		{`\n\t\r\f\v\a\e`, seq(char(10), char(9), char(13), char(12), char(11), char(7), char(27))},
		{`\x4`, char(4)}, {`\x41`, char('A')}, {`\x411`, seq(char('A'), char('1'))}, {`\x4g`, seq(char(4), char('g'))}, {`\xff`, char(255)}, {`\xFf`, char(255)}, {`\x0`, char(0)}, {`\x80`, char(128)},
		{`\x{41}`, char('A')}, {`\x{0}`, char(0)}, {`\x{00000041}`, char('A')}, {`\x{10FFFF}`, char(greatest)}, {`\x{10ffff}`, char(greatest)}, {`\x{d7ff}`, char(0xd7ff)}, {`\x{E000}`, char(0xe000)},
		{`\u0041`, char('A')}, {`\u00411`, seq(char('A'), char('1'))}, {`\uFFFF`, char(0xffff)}, {`\ud7ff`, char(0xd7ff)}, {`\u0000`, char(0)},
		{`\*\+\?\|\(\)\[\]\{\}\\\^\$\.\#`, chars(`*+?|()[]{}\^$.#`)}, {`\ \-\/\"\'\_\<\>\,\!\@\&\:`, chars(` -/"'_<>,!@&:`)}, {"\\é\\€\\😀", chars("é€😀")}, {"\\\n\\\x00\\\x7f", chars("\n\x00\x7f")}, {"\\\xff", char(65533)}, {"\\\xe2\x82", seq(char(65533), char(65533))},
		{`\d`, set('0', '9')}, {`\w`, set('0', '9', 'A', 'Z', '_', '_', 'a', 'z')}, {`\s`, set(9, 13, 32, 32)}, {`\h`, set('0', '9', 'A', 'F', 'a', 'f')},
		{`\D`, set(0, 47, 58, greatest)}, {`\W`, set(0, 47, 58, 64, 91, 94, 96, 96, 123, greatest)}, {`\S`, set(0, 8, 14, 31, 33, greatest)}, {`\H`, set(0, 47, 58, 64, 71, 96, 103, greatest)},
		// places
		{"^", begin}, {"$", end}, {`\A`, start}, {`\z`, stop}, {`\Z`, last}, {`\b`, word}, {`\B`, notWord}, {"^a$", seq(begin, a, end)}, {"^^$$", seq(begin, begin, end, end)}, {"a^b", seq(a, begin, b)},
		{"(?=a)", look(a)}, {"(?!a)", lookNot(a)}, {"(?<=a)", lookBack(a)}, {"(?<!a)", lookNotBack(a)}, {"(?=)", look(empty)}, {"(?<=a|bc)", lookBack(alt(a, seq(b, c)))}, {"(?!(?=a)b)c", seq(lookNot(seq(look(a), b)), c)}, {"a(?=b)c", seq(a, look(b), c)},
		{"(?>a)", atomic(a)}, {"(?>a|b)*", star(atomic(alt(a, b)))}, {"(?>)", atomic(empty)},
		// comments leave nothing
		{"(?#)", empty}, {"(?#a)", empty}, {"a(?#b)", a}, {"(?#b)a", a}, {"a(?#x)b", seq(a, b)}, {"a|(?#x)", alt(a, empty)}, {"((?#x))", group(1, "", empty)}, {"(?#(a)b", b}, {"(?#\\)a", a}, {"(?#[(|*+?é\xff\n)a", a}, {"(?#a)(?#b)c", c}, {"(?#a)*?)"[:5], empty},
		// groups and what leads back to them
		{"(a)", group(1, "", a)}, {"((a)(b))(c)", seq(group(1, "", seq(group(2, "", a), group(3, "", b))), group(4, "", c))}, {"(?<x>a)(b)(?<_Y9>c)", seq(group(1, "x", a), group(2, "", b), group(3, "_Y9", c))},
		{"(?=(a))(?:(b))(?>(c))", seq(look(group(1, "", a)), group(2, "", b), atomic(group(3, "", c)))}, {"(?<x>(?<y>a))", group(1, "x", group(2, "y", a))}, {"(?<x>)(?<X>)", seq(group(1, "x", empty), group(2, "X", empty))},
		{`(a)\1`, seq(group(1, "", a), back(1))}, {`\1(a)`, seq(back(1), group(1, "", a))}, {`(\1)`, group(1, "", back(1))}, {`(?:\1)0(a)`, seq(back(1), char('0'), group(1, "", a))}, {`\k<x>(?<x>a)`, seq(backTo("x"), group(1, "x", a))}, {`(?<x>a)\1`, seq(group(1, "x", a), back(1))}, {`(a)\1*`, seq(group(1, "", a), star(back(1)))}, {`(a)\1a`, seq(group(1, "", a), back(1), a)}, {`(?<x>a)\k<x>{2}`, seq(group(1, "x", a), rep(2, 2, 0, backTo("x")))},
		{strings.Repeat("()", 12) + `\12`, seq(append(groups(12), back(12))...)},
		{strings.Repeat("()", 12) + `(?:\1)2`, seq(append(groups(12), back(1), char('2'))...)},
		{strings.Repeat("()", 100) + `\100`, seq(append(groups(100), back(100))...)},
	} {
		checkTree(t, x.s, false, x.want)
	}
}

// groups answers the groups 1 to n, with nothing in them.
func groups(n int) []api.Pat {
	var out []api.Pat
	for i := range n {
		out = append(out, group(i+1, "", empty))
	}
	return out
}

func TestRepeatsByHand(t *testing.T) {
	for _, x := range []struct {
		s    string
		want api.Pat
	}{
		{"a*", rep(0, -1, api.ModeGreedy, a)}, {"a+", rep(1, -1, api.ModeGreedy, a)}, {"a?", rep(0, 1, api.ModeGreedy, a)},
		{"a*?", rep(0, -1, api.ModeLazy, a)}, {"a+?", rep(1, -1, api.ModeLazy, a)}, {"a??", rep(0, 1, api.ModeLazy, a)},
		{"a*+", rep(0, -1, api.ModeSure, a)}, {"a++", rep(1, -1, api.ModeSure, a)}, {"a?+", rep(0, 1, api.ModeSure, a)},
		{"a{2}", rep(2, 2, api.ModeGreedy, a)}, {"a{2,}", rep(2, -1, api.ModeGreedy, a)}, {"a{,2}", rep(0, 2, api.ModeGreedy, a)}, {"a{2,3}", rep(2, 3, api.ModeGreedy, a)},
		{"a{2}?", rep(2, 2, api.ModeLazy, a)}, {"a{2,}?", rep(2, -1, api.ModeLazy, a)}, {"a{,2}?", rep(0, 2, api.ModeLazy, a)}, {"a{2,3}?", rep(2, 3, api.ModeLazy, a)},
		{"a{0}", rep(0, 0, api.ModeGreedy, a)}, {"a{0,}", rep(0, -1, api.ModeGreedy, a)}, {"a{,0}", rep(0, 0, api.ModeGreedy, a)}, {"a{1}", rep(1, 1, api.ModeGreedy, a)}, {"a{2,2}", rep(2, 2, api.ModeGreedy, a)},
		{"a{1000}", rep(1000, 1000, api.ModeGreedy, a)}, {"a{1000,}", rep(1000, -1, api.ModeGreedy, a)}, {"a{,1000}", rep(0, 1000, api.ModeGreedy, a)}, {"a{0002,0010}", rep(2, 10, api.ModeGreedy, a)}, {"a{0000}", rep(0, 0, api.ModeGreedy, a)},
		{"ab*", seq(a, star(b))}, {"(?:ab)*", star(seq(a, b))}, {"(?:a|b)*", star(alt(a, b))}, {"(?:a*)*", star(star(a))}, {"(?:a*)?", rep(0, 1, 0, star(a))}, {"(?:)*", star(empty)}, {"(?:^)*", star(begin)}, {"(?:(?=a))+", rep(1, -1, 0, look(a))}, {"(a)*", star(group(1, "", a))}, {"[a]*", star(set('a', 'a'))}, {`\d*`, star(set('0', '9'))}, {`\n*`, star(char(10))}, {`\**`, star(char('*'))},
		{"(?:\\b)?", rep(0, 1, 0, word)},
		// a { that does not begin a repeat
		{"{", char('{')}, {"{2}", chars("{2}")}, {"{2}a", chars("{2}a")}, {"{a", chars("{a")}, {"(?:{2})", chars("{2}")}, {"({2})", group(1, "", chars("{2}"))}, {"a|{2}", alt(a, chars("{2}"))}, {"^{2}", seq(begin, char('{'), char('2'), char('}'))}, {"(?=a){2}", seq(look(a), char('{'), char('2'), char('}'))}, {"(?#x){2}", chars("{2}")}, {"a(?#x){2}", chars("a{2}")},
		{"a{}", chars("a{}")}, {"a{,}", chars("a{,}")}, {"a{2", chars("a{2")}, {"a{2,", chars("a{2,")}, {"a{2,3", chars("a{2,3")}, {"a{,3", chars("a{,3")}, {"a{x}", chars("a{x}")}, {"a{2x}", chars("a{2x}")}, {"a{2,x}", chars("a{2,x}")}, {"a{2,3,4}", chars("a{2,3,4}")}, {"a{,,3}", chars("a{,,3}")}, {"a{ 2}", chars("a{ 2}")}, {"a{2 }", chars("a{2 }")}, {"a{2, 3}", chars("a{2, 3}")}, {"a{-1}", chars("a{-1}")}, {"a{+1}", seq(a, rep(1, -1, 0, char('{')), char('1'), char('}'))}, {"a{12345}", chars("a{12345}")}, {"a{1,12345}", chars("a{1,12345}")}, {"a{00001}", chars("a{00001}")}, {"a{,00001}", chars("a{,00001}")}, {"a{é}", chars("a{é}")},
		{"a{2}{3}", seq(rep(2, 2, 0, a), char('{'), char('3'), char('}'))}, {"a*{3}", seq(star(a), char('{'), char('3'), char('}'))}, {"a{2}?{3}", seq(rep(2, 2, 1, a), char('{'), char('3'), char('}'))}, {"{{2}", rep(2, 2, 0, char('{'))}, {"{*", star(char('{'))}, {"a{*", seq(a, star(char('{')))}, {"a{2*}", seq(a, char('{'), star(char('2')), char('}'))}, {"a{3}{2}{1}", seq(rep(3, 3, 0, a), char('{'), char('2'), rep(1, 1, 0, char('}')))}, {"]*}+", seq(star(char(']')), rep(1, -1, 0, char('}')))},
	} {
		checkTree(t, x.s, false, x.want)
	}
}

func TestSetsByHand(t *testing.T) {
	for _, x := range []struct {
		s    string
		want api.Pat
	}{
		{"[a]", set('a', 'a')}, {"[^a]", notSet('a', 'a')}, {"[ab]", set('a', 'b')}, {"[ba]", set('a', 'b')}, {"[ac]", set('a', 'a', 'c', 'c')}, {"[ca]", set('a', 'a', 'c', 'c')}, {"[aa]", set('a', 'a')}, {"[a-c]", set('a', 'c')}, {"[a-a]", set('a', 'a')},
		{"[a-cb]", set('a', 'c')}, {"[a-cb-e]", set('a', 'e')}, {"[a-cd-f]", set('a', 'f')}, {"[d-fa-c]", set('a', 'f')}, {"[a-ce-g]", set('a', 'c', 'e', 'g')}, {"[a-zb]", set('a', 'z')}, {"[a-zb-cx]", set('a', 'z')}, {"[b-ca-z]", set('a', 'z')}, {"[acb]", set('a', 'c')},
		{"[é-€]", set('é', '€')}, {"[😀]", set('😀', '😀')}, {"[\xff]", set(65533, 65533)}, {"[\xe2\x82]", set(65533, 65533)}, {"[a-\xff]", set('a', 65533)},
		{"[*+?|()$.{}]", set('$', '$', '(', '+', '.', '.', '?', '?', '{', '}')}, {"[a^]", set('^', '^', 'a', 'a')}, {"[^^]", notSet('^', '^')}, {"[#\n ]", set(10, 10, 32, 32, 35, 35)}, {"[:]", set(':', ':')}, {"[:a:]", set(':', ':', 'a', 'a')},
		// escapes
		{`[\n\t\r\f\v\a\e]`, set(7, 7, 9, 13, 27, 27)}, {`[\b]`, set(8, 8)}, {`[\b-\n]`, set(8, 10)}, {`[\x41]`, set('A', 'A')}, {`[\x{41}-\u0043]`, set('A', 'C')}, {`[\x4-\x5]`, set(4, 5)}, {`[\]]`, set(']', ']')}, {`[\[]`, set('[', '[')}, {`[\\]`, set('\\', '\\')}, {`[\^]`, set('^', '^')}, {`[\^a]`, set('^', '^', 'a', 'a')}, {`[a\-c]`, set('-', '-', 'a', 'a', 'c', 'c')}, {`[\--a]`, set('-', 'a')}, {`[+-\]]`, set('+', ']')}, {`[\é]`, set('é', 'é')},
		{`[\x{0}-\x{10ffff}]`, set(0, greatest)}, {`[\x{d7ff}-\x{e000}]`, set(0xd7ff, 0xe000)}, {`[\x{d7ff}\x{e000}]`, set(0xd7ff, 0xd7ff, 0xe000, 0xe000)},
		// a - that is itself
		{"[-]", set('-', '-')}, {"[^-]", notSet('-', '-')}, {"[-a]", set('-', '-', 'a', 'a')}, {"[a-]", set('-', '-', 'a', 'a')}, {"[^a-]", notSet('-', '-', 'a', 'a')}, {"[--]", set('-', '-')}, {"[---]", set('-', '-')}, {"[--a]", set('-', 'a')}, {"[-a-c]", set('-', '-', 'a', 'c')}, {"[a-c-]", set('-', '-', 'a', 'c')}, {"[a-c-e]", set('-', '-', 'a', 'c', 'e', 'e')}, {"[a-c--]", set('-', '-', 'a', 'c')}, {"[a-c--z]", set('-', 'z')}, {`[\d-a]`, set('-', '-', '0', '9', 'a', 'a')}, {`[\d-]`, set('-', '-', '0', '9')}, {`[\d-\w]`, set('-', '-', '0', '9', 'A', 'Z', '_', '_', 'a', 'z')}, {`[+--]`, set('+', '-')}, {"[[:digit:]-a]", set('-', '-', '0', '9', 'a', 'a')}, {`[\d--a]`, set('-', 'a')},
		// classes
		{`[\d]`, set('0', '9')}, {`[\da]`, set('0', '9', 'a', 'a')}, {`[\D\d]`, set(0, greatest)}, {`[\Da]`, set(0, 47, 58, greatest)}, {`[^\D]`, notSet(0, 47, 58, greatest)}, {`[\w\s]`, set(9, 13, 32, 32, '0', '9', 'A', 'Z', '_', '_', 'a', 'z')}, {`[\h\H]`, set(0, greatest)}, {`[\D5]`, set(0, 47, 53, 53, 58, greatest)}, {`[\D0-8]`, set(0, 56, 58, greatest)},
		{"[[:alnum:]]", set('0', '9', 'A', 'Z', 'a', 'z')}, {"[[:alpha:]]", set('A', 'Z', 'a', 'z')}, {"[[:blank:]]", set(9, 9, 32, 32)}, {"[[:cntrl:]]", set(0, 31, 127, 127)}, {"[[:digit:]]", set('0', '9')}, {"[[:graph:]]", set(33, 126)}, {"[[:lower:]]", set('a', 'z')}, {"[[:print:]]", set(32, 126)}, {"[[:punct:]]", set(33, 47, 58, 64, 91, 96, 123, 126)}, {"[[:space:]]", set(9, 13, 32, 32)}, {"[[:upper:]]", set('A', 'Z')}, {"[[:word:]]", set('0', '9', 'A', 'Z', '_', '_', 'a', 'z')}, {"[[:xdigit:]]", set('0', '9', 'A', 'F', 'a', 'f')},
		{"[[:^alnum:]]", set(0, 47, 58, 64, 91, 96, 123, greatest)}, {"[[:^blank:]]", set(0, 8, 10, 31, 33, greatest)}, {"[[:^cntrl:]]", set(32, 126, 128, greatest)}, {"[[:^graph:]]", set(0, 32, 127, greatest)}, {"[[:^punct:]]", set(0, 32, 48, 57, 65, 90, 97, 122, 127, greatest)}, {"[[:^xdigit:]]", set(0, 47, 58, 64, 71, 96, 103, greatest)},
		{"[^[:digit:]]", notSet('0', '9')}, {"[^[:^digit:]]", notSet(0, 47, 58, greatest)}, {"[[:digit:][:upper:]a]", set('0', '9', 'A', 'Z', 'a', 'a')}, {"[a[:digit:]b-d]", set('0', '9', 'a', 'd')},
		// & that stand apart
		{"[&]", set('&', '&')}, {"[&a&]", set('&', '&', 'a', 'a')}, {`[&\&]`, set('&', '&')}, {`[\&&]`, set('&', '&')}, {`[\&\&]`, set('&', '&')}, {"[&-&]", set('&', '&')}, {"[!-&a&]", set('!', '&', 'a', 'a')}, {"&[&]&&", seq(char('&'), set('&', '&'), char('&'), char('&'))}, {"[&][&]", seq(set('&', '&'), set('&', '&'))}, {`[&[:digit:]&]`, set('&', '&', '0', '9')}, {`[&\x26&]`, set('&', '&')},
		{"[a]]", seq(set('a', 'a'), char(']'))}, {"[a]-[b]", seq(set('a', 'a'), char('-'), set('b', 'b'))},
	} {
		checkTree(t, x.s, false, x.want)
		checkTree(t, x.s, true, x.want)
	}
}

func TestExtendedByHand(t *testing.T) {
	for _, x := range []struct {
		s    string
		want api.Pat
	}{
		{" ", empty}, {" a ", a}, {"a b", seq(a, b)}, {"\t\n\v\f\r a", a}, {"#a", empty}, {"a#b", a}, {"a#b\nc", seq(a, c)}, {"a # b # c\n # d", a}, {"#\n#\na", a}, {"#", empty}, {"a#(?[*\n", a}, {"\u00a0a", seq(char(0xa0), a)}, {"\u0085", char(0x85)}, {"#b\rc", empty}, {"#\xff\né", char('é')},
		// what stands for nothing ahead of a repeat
		{"a *", star(a)}, {"a # x\n*", star(a)}, {"a {2}", rep(2, 2, 0, a)}, {"( a ) *", star(group(1, "", a))}, {"a *b", seq(star(a), b)}, {"a#{2}\n{3}", rep(3, 3, 0, a)}, {"(?: a b ) *", star(seq(a, b))},
		// not within a repeat
		{"a{ 2}", chars("a{2}")}, {"a{2, 3}", chars("a{2,3}")}, {"a{2#\n}", chars("a{2}")}, {"a{2} {3}", seq(rep(2, 2, 0, a), char('{'), char('3'), char('}'))}, {"a{#2}", chars("a{")},
		// not within an escape
		{`\ `, char(' ')}, {`\#a`, seq(char('#'), a)}, {"\\\n", char(10)}, {`\x4 1`, seq(char(4), char('1'))}, {`()\1 2`, seq(group(1, "", empty), back(1), char('2'))}, {`\n n`, seq(char(10), char('n'))},
		// nor within sets
		{"[ #]", set(' ', ' ', '#', '#')}, {"[ a-c ]", set(' ', ' ', 'a', 'c')}, {"[#\n]", set(10, 10, '#', '#')}, {"[a] #]", set('a', 'a')},
		// nor within (? and what it begins with
		{"(?# a # b\n)c", c}, {"(?#  )c", c}, {"(?#a#)b", b}, {"(?: a)", a}, {"(?> a )", atomic(a)}, {"(?= a )", look(a)}, {"(?<x> a )", group(1, "x", a)}, {"(?<! a#)\n)", lookNotBack(a)}, {"( a | b )", group(1, "", alt(a, b))}, {"a | b", alt(a, b)}, {" | ", alt(empty, empty)}, {"^ $", seq(begin, end)}, {" ^ a", seq(begin, a)},
	} {
		checkTree(t, x.s, true, x.want)
	}
	checkTree(t, " a#b\n", false, chars(" a#b\n"))
}

// P9.1

func TestFaultsByHand(t *testing.T) {
	for _, x := range []struct {
		s  string
		at int
	}{
		// the chapter's examples
		{"*a", 0}, {"a**", 2}, {"(a", 2}, {"a)", 1}, {"[b-a]", 1}, {`\2(a)`, 0}, {"a{2,1}", 1}, {"[]", 1}, {"^*", 1},
		// repeats that stand behind no atom
		{"*", 0}, {"+", 0}, {"?", 0}, {"|*", 1}, {"(*", 1}, {"(+)", 1}, {"a|+", 2}, {"(?:*)", 3}, {"(?=?)", 3}, {"$+", 1}, {`\A*`, 2}, {`\z*`, 2}, {`\Z*`, 2}, {`\b?`, 2}, {`\B+`, 2}, {"(?=a)*", 5}, {"(?!a)+", 5}, {"(?<=a)?", 6}, {"(?<!a)*", 6}, {"a(?#)*", 5}, {"(?#)*", 4}, {"é**", 3}, {"(?:^)**", 6},
		{"a*??", 3}, {"a*++", 3}, {"a*+?", 3}, {"a*?+", 3}, {"a??*", 3}, {"a{2}+", 4}, {"a{2}*", 4}, {"a{2}??", 5}, {"a{2}?+", 5},
		// parentheses
		{"(", 1}, {")", 0}, {"((a)", 4}, {"(a|", 3}, {"())", 2}, {"(?:a", 4}, {"(?:a))", 5}, {"(?", 2}, {"(?a", 2}, {"(?)", 2}, {"(?i)a", 2}, {"(?-i)", 2}, {"(?é", 2}, {"(??", 2}, {"(?*", 2}, {"(? :a)", 2}, {"(?<", 3}, {"(?<>a)", 3}, {"(?<1>a)", 3}, {"(?<é>a)", 3}, {"(?<-a>b)", 3}, {"(?< a>b)", 3}, {"(?<a", 4}, {"(?<a-b>c)", 4}, {"(?<a é>", 4}, {"(?<aé>", 4}, {"(?<a>", 5}, {"(?<a>b", 6}, {"(?#", 3}, {"(?#abc", 6}, {"(?#é", 5}, {"(?>a", 4}, {"(?=", 3}, {"(?<=", 4}, {"(?<!a", 5}, {"(?P<a>b)", 2}, {"(?'a'b)", 2},
		{"(?<" + strings.Repeat("a", 33) + ">b)", 35}, {"(?<" + strings.Repeat("a", 33), 35}, {"(?<" + strings.Repeat("a", 32), 35}, {"(?<_" + strings.Repeat("9", 32) + ">b)", 35},
		// escapes
		{`\`, 1}, {`a\`, 2}, {`(\`, 2}, {`\c`, 1}, {`\q`, 1}, {`\p{L}`, 1}, {`\K`, 1}, {`\G`, 1}, {`\R`, 1}, {`\X`, 1}, {`\N`, 1}, {`\V`, 1}, {`\0`, 1}, {`\01`, 1}, {`\00`, 1}, {`\Q`, 1}, {`\i`, 1}, {`\o`, 1}, {`\y`, 1}, {`\U0041`, 1}, {`\E`, 1}, {`\T`, 1}, {`\F`, 1},
		{`\x`, 2}, {`\xg`, 2}, {`\x-1`, 2}, {`\xé`, 2}, {`\x{`, 3}, {`\x{}`, 3}, {`\x{g}`, 3}, {`\x{41`, 5}, {`\x{41g}`, 5}, {`\x{ 41}`, 3}, {`\x{123456789}`, 11}, {`\x{00000041`, 11}, {`\x{000000041}`, 11}, {`\u`, 2}, {`\u1`, 3}, {`\u12`, 4}, {`\u123`, 5}, {`\u123g`, 5}, {`\u{41}`, 2}, {`\u 041`, 2},
		{`\k`, 2}, {`\ka`, 2}, {`\k'a'`, 2}, {`\k<`, 3}, {`\k<>`, 3}, {`\k<1>`, 3}, {`\k<a`, 4}, {`\k<a-`, 4}, {`\k<` + strings.Repeat("a", 33) + `>`, 35},
		// escapes of what is no code point
		{`\x{d800}`, 0}, {`a\x{dfff}`, 1}, {`\ud800`, 0}, {`\udfff(`, 0}, {`a\uDC00`, 1}, {`\x{110000}`, 0}, {`\x{ffffffff}`, 0}, {`\x{80000000}`, 0}, {`\ud83d\ude00`, 0}, {`[\ud800]`, 1}, {`[a\x{110000}]`, 2}, {`[a-\ud800]`, 3}, {`[\ud800-a]`, 1}, {`[\ud800-`, 1}, {`\x{110000`, 9}, {`\x{110000g}`, 9}, {`é\ud800`, 2}, {`\ud800*`, 0}, {`*\ud800`, 0}, {`\ud800**`, 0},
		// sets
		{"[", 1}, {"[^", 2}, {"[^]", 2}, {"[]a]", 1}, {"[^]a]", 2}, {"[a", 2}, {"[a-", 3}, {"[a-c", 4}, {"[a[b]]", 3}, {"[[a]]", 2}, {"[[", 2}, {"[[b-a]]", 2}, {"[a-[b]]", 3}, {"[a-[:digit:]]", 3}, {`[\`, 2}, {`[a\`, 3}, {`[a-\`, 4}, {`[a-\d]`, 4}, {`[a-\W]`, 4}, {`[a-\h]`, 4}, {`[\B]`, 2}, {`[\A]`, 2}, {`[\z]`, 2}, {`[\Z]`, 2}, {`[\k<a>]`, 2}, {`[\1]`, 2}, {`[\0]`, 2}, {`[\p]`, 2}, {`[\c]`, 2}, {`[\x]`, 3}, {`[\x{}]`, 4}, {`[\u004]`, 6}, {"[(", 2}, {"([)", 3}, {"[a]b[", 5}, {"[a-é", 5}, {"[é", 3},
		{"[b-a", 1}, {"[b-a](", 1}, {"[ab-a]", 2}, {"[z-a-]", 1}, {"[a--]", 1}, {"[c-a-e]", 1}, {`[b-\x61]`, 1}, {`[\x62-a]`, 1}, {`[\n-\t]`, 1}, {`[€-é]`, 1}, {`[é€-é]`, 3}, {"([b-a]", 2}, {"[^b-a]", 2}, {"[a-cc-a]", 4}, {`[a-\b]`, 1}, {`[a-\-]`, 1}, {"[a-&&]", 1},
		{"[&&]", 2}, {"[a&&b]", 3}, {"[&&", 2}, {"[&&&]", 2}, {"[a&&[b]]", 3}, {`[\&&&]`, 4}, {"[!-&&]", 4}, {"[&-&&]", 4}, {"[^&&]", 3},
		{"[[:", 3}, {"[[:]]", 3}, {"[[:^", 4}, {"[[:^^alpha:]]", 4}, {"[[:foo:]]", 3}, {"[[:alp", 6}, {"[[:alpha", 8}, {"[[:alpha:", 9}, {"[[:alpha:]", 10}, {"[[:alpha]]", 8}, {"[[:alpha:x]", 9}, {"[[:alphabet:]]", 8}, {"[[:alx", 5}, {"[[:al]]", 5}, {"[[:Alpha:]]", 3}, {"[[:a:]]", 4}, {"[[:é:]]", 3}, {"[[:xé", 4}, {"[[: alpha:]]", 3}, {"[[:alpha :]]", 8}, {"[[:^digits:]]", 9}, {"[[:ascii:]]", 4}, {"[[:prune", 5}, {"[[.a.]]", 2}, {"[[=a=]]", 2},
		// counts
		{"a{3,2}", 1}, {"ab{3,2}", 2}, {"a{3,2}?", 1}, {"a{1,0}", 1}, {"a{1001}", 1}, {"a{1001,}", 1}, {"a{,1001}", 1}, {"a{1,1001}", 1}, {"a{9999,1}", 1}, {"a{9999}", 1}, {"a{2,1}(", 1}, {"a{2,1}**", 1}, {"(a{2,1}", 2}, {"é{2,1}", 2}, {"a{0002,0001}", 1}, {"a{2,1})", 1}, {"a*)b{2,1}", 2}, {"a(?{2,1}", 3},
		// names
		{"(?<a>b)(?<a>c)", 10}, {"(?<a>(?<a>c))", 8}, {"(?<a>b)(c)(?<a>d)", 13}, {"(?<a>b)(?<a>", 10}, {"(?<a>b)(?<a", 11}, {"(?<a>b)(?<a!", 11}, {"(?<a>b)(?<a>*", 10}, {"(?<ab>b)(?<b>(?<ab>", 16}, {"(?<a>b)(?<a>c)(", 10},
		// what is behind the end: the first one of the backs that lead nowhere
		{`\1`, 0}, {`a\1`, 1}, {`(a)\2`, 3}, {`(a)\10`, 3}, {`(a)\1\2\3`, 5}, {`\k<a>`, 0}, {`(?<b>a)\k<a>`, 7}, {`\k<a>\1`, 0}, {`\1\k<a>`, 0}, {`(a)\1\k<a>\2`, 5}, {`(a)\2\k<a>`, 3}, {`(?<a>\k<A>)`, 5}, {`\99999999999999999999(a)`, 0}, {`(a)\18446744073709551617`, 3}, {`(a)\1000`, 3}, {`é\1`, 2}, {`\1*`, 0}, {`(?:a)\1`, 5}, {`(?=a)\1`, 5},
		{`\1(`, 3}, {`\1*`, 0}, {`\1**`, 3}, {`\1a{2,1}`, 3}, {`\k<a>[b-a]`, 6}, {`\1)`, 2},
		{"\xff)", 1}, {"\xe2\x82*+?", 4}, {"a\xffb)", 3}, {"(?\xff", 2}, {"(?<a\xff", 4}, {"[[:\xff", 3}, {"[\xff-a]", 1}, {"\\x\xff", 2},
	} {
		checkFault(t, x.s, false, x.at)
	}
}

func TestFaultsOfExtendedByHand(t *testing.T) {
	for _, x := range []struct {
		s  string
		at int
	}{
		{" *a", 1}, {"# x\n*", 4}, {"a* *", 3}, {"a* ?", 3}, {"a* +", 3}, {"a*#\n?", 4}, {"a{2} ?", 5}, {"a ** b", 3}, {"^ *", 2}, {"(?=a) *", 6}, {"a(?#x) *", 7}, {"a | *", 4},
		{"(a #)", 5}, {"(a #\n", 5}, {"( ?:a)", 2}, {"(? :a)", 2}, {"(?< a>b)", 3}, {"(?<a >b)", 4}, {"(?<a#\n>b)", 4}, {"(?#", 3}, {"(?# \n", 5}, {"( #\n*", 4}, {"a ) b", 2},
		{`\x 41`, 2}, {`\x{ 41}`, 3}, {`\x{41 }`, 5}, {`\u 0041`, 2}, {`\k <a>`, 2}, {`\k< a>`, 3}, {`\k<a >`, 4}, {`\x{110000} `, 0}, {` \1 `, 1}, {" \\2 # x\n(a)", 1},
		{"[ b-a]", 2}, {"[b - a", 6}, {"[b#-a", 5}, {"[z#-!]", 2}, {"[#", 2}, {"[ ", 2}, {"[ \n", 3}, {"a {2,1}", 2}, {"a # x\n{1001}", 6}, {"[a- \n", 1},
		{"\u00a0*)", 3},
	} {
		checkFault(t, x.s, true, x.at)
	}
}

func TestTooMuch(t *testing.T) {
	long := strings.Repeat("a", 4096)
	if p, at, e := regex.Parse(long, false); e != api.OK || at != 0 || !same(p, chars(long)) {
		t.Error("4096 bytes", at, e)
	}
	checkFault(t, long+"a", false, 0)
	checkFault(t, strings.Repeat("é", 2048)+"a", false, 0)
	checkFault(t, strings.Repeat(" ", 4097), true, 0)
	checkFault(t, "("+long, false, 0)
	checkFault(t, "*"+strings.Repeat(")", 1<<20), false, 0)
	checkTree(t, strings.Repeat(" ", 4096), true, empty)
	checkFault(t, strings.Repeat("a", 4095)+"*"+"*", false, 0)
	checkFault(t, strings.Repeat("a", 4094)+"**", false, 4095)
	checkFault(t, "["+strings.Repeat("a", 4095), false, 4096)

	// groups
	hundred := strings.Repeat("()", 100)
	checkTree(t, hundred, false, seq(groups(100)...))
	checkTree(t, hundred+"(?:a)(?=b)(?<=c)(?#)", false, seq(append(groups(100), a, look(b), lookBack(c))...))
	for _, more := range []string{"()", "(", "(a", "(*", "(?<x>a)", "(?<x>", "(?<x", "(?<x>*", "([b-a])", "(()", "(a{2,1})", `(\ud800)`, "(a)*)", "(?<1>a)", "(?<>", "(?<" + strings.Repeat("a", 40) + ">b)"} {
		checkFault(t, hundred+more, false, 200)
	}
	for more, at := range map[string]int{"(?": 202, "(?a": 202, "(?)": 202, "(?:": 203, "(?=": 203, "(?<=": 204, "(?#": 203, "(?:*": 203} {
		checkFault(t, hundred+more, false, at)
	}
	named := "(?<x>)" + strings.Repeat("()", 99)
	checkFault(t, named+"(?<x>)", false, 204)
	checkFault(t, named+"a*(?<x>", false, 206)
	checkFault(t, hundred+`\101`, false, 200)
	checkFault(t, hundred+"**", false, 201)
	checkFault(t, strings.Repeat("(?:)", 100)+`\1`, false, 400)

	// parentheses that are open
	for _, head := range []string{"(?:", "(?=", "(?!", "(?<=", "(?<!", "(?>", "("} {
		deep := strings.Repeat(head, 100)
		if _, at, e := regex.Parse(deep+strings.Repeat(")", 100), false); e != api.OK {
			t.Error(head, at, e)
		}
		if _, at, e := regex.Parse(deep+"(?#(((a)"+strings.Repeat(")", 100), false); e != api.OK {
			t.Error(head, at, e)
		}
		for _, more := range []string{"(", "()", "(?:a)", "(?:", "(?=a)", "(?!a)", "(?<=a)", "(?<!a)", "(?>a)", "(?<x>a)", "(?<x", "(?", "(?a", "(*", "([b-a]"} {
			checkFault(t, deep+more, false, len(deep))
			checkFault(t, deep+" # (\n "+more, true, len(deep)+6)
		}
		checkFault(t, deep+"(?#", false, len(deep)+3)
		checkFault(t, deep, false, len(deep))
		checkFault(t, deep+"*", false, len(deep))
		checkFault(t, deep+strings.Repeat(")", 101), false, len(deep)+100)
		checkFault(t, deep[len(head):]+"()"+strings.Repeat("(?:)", 3)+"(?:(?:", false, len(deep)-len(head)+17)
	}
	checkTree(t, strings.Repeat("(?:", 100)+"a"+strings.Repeat(")", 100), false, a)
	if _, at, e := regex.Parse(strings.Repeat(strings.Repeat("(?:", 100)+"a"+strings.Repeat(")", 100), 10), false); e != api.OK {
		t.Error("closed ones count", at, e)
	}
}

// TestAgainstTheModel has all short patterns of some alphabets, each for a part of the grammar.
func TestAgainstTheModel(t *testing.T) {
	for _, x := range []struct {
		ahead    string
		alphabet []string
		most     int
	}{
		{"", strings.Split("( ) ? : < a > = | * # !", " "), 4},
		{"(?", strings.Split("( ) : < a > ! #", " "), 5},
		{"(?<a>)(?<", strings.Split("a 1 > ) b", " "), 5},
		{"a", strings.Split("{ } 1 2 , ? + * a |", " "), 4},
		{"a{", strings.Split("{ } 1 2 0 , ? +", " "), 5},
		{"", strings.Split("[ ] ^ a - b & : \\ d", " "), 4},
		{"[", strings.Split("[ ] ^ a - c & \\ d", " "), 5},
		{"[[:", strings.Split("^ alpha alnum xdigit word al x : ]", " "), 4},
		{"\\", strings.Split("x { } 6 1 u k < a > d 0 \\", " "), 4},
		{"()", strings.Split("\\1 \\2 1 0 ( ) * \\k<a> (?<a> {2}", " "), 4},
		{"", []string{"\xff", "\xe2\x82", "é", "€", "\x00", "\n", " ", "#", "[", "]", "-"}, 4},
	} {
		t.Run(x.ahead+strings.Join(x.alphabet, ""), func(t *testing.T) {
			t.Parallel()
			allOf(x.ahead, x.alphabet, x.most, func(s string) {
				checkAgainstModel(t, s, false)
				checkAgainstModel(t, s, true)
			})
		})
	}
}

// allOf gives all texts of at most so many of an alphabet's parts behind a beginning.
func allOf(ahead string, alphabet []string, most int, give func(s string)) {
	give(ahead)
	if most == 0 {
		return
	}
	for _, part := range alphabet {
		allOf(ahead+part, alphabet, most-1, give)
	}
}

func checkAgainstModel(t *testing.T, s string, extended bool) {
	t.Helper()
	p, at, e := regex.Parse(s, extended)
	want, wantAt, wantE := modelParse(s, extended)
	if !same(p, want) || at != wantAt || e != wantE {
		t.Fatalf("Parse(%q, %v) = %s, %d, %d, want %s, %d, %d", s, extended, shown(p), at, e, shown(want), wantAt, wantE)
	}
}

// somePattern glues tokens, most of which go on with one another.
func somePattern(r *rand.Rand) string {
	tokens := strings.Split("a b é € 😀 0 1 . | | ( ( (?: (?= (?! (?<= (?<! (?> (?<a> (?<b> (?<c_9> (?#x) ) ) ) ) ) ^ $ \\A \\z \\Z \\b \\B * + ? *? +? ?? *+ ++ {2} {2,} {,2} {2,3}? {3,2} {1001} { } \\1 \\2 \\10 \\k<a> \\k<b> \\d \\W \\S \\h \\n \\x4 \\x41 \\x{1f600} \\u20ac \\ud800 \\. [a] [^a-c] [\\d-] [[:alpha:]0-9] [[:^word:]] [\\x{fffd}-\\x{10001}] [c-a] [&] [é€] # ] -", " ")
	tokens = append(tokens, " ", "\n", "# x\n", "\xff")
	s := ""
	for range r.Intn(10) {
		s += tokens[r.Intn(len(tokens))]
	}
	return s
}

// spoilt answers a pattern with a byte less, more, or another one, or without its end.
func spoilt(s string, r *rand.Rand) string {
	i := r.Intn(len(s) + 1)
	const bytes = "()?:<>=!#|*+{},[]^-&\\abdkxu019 \n\xff\xc3"
	other := bytes[r.Intn(len(bytes)):][:1]
	switch r.Intn(4) {
	case 0:
		return s[:i]
	case 1:
		return s[:i] + other + s[i:]
	case 2:
		return s[:i] + s[min(i+1, len(s)):]
	}
	return s[:i] + other + s[min(i+1, len(s)):]
}

func TestSomePatternsAgainstTheModel(t *testing.T) {
	r := rand.New(rand.NewSource(91))
	taken := 0
	for range 40000 {
		s := somePattern(r)
		for range 3 {
			checkAgainstModel(t, s, r.Intn(2) == 0)
			if _, _, e := regex.Parse(s, false); e == api.OK {
				taken++
			}
			s = spoilt(s, r)
		}
	}
	if taken < 10000 {
		t.Error("few patterns were taken:", taken)
	}
}

// TestTreesAreNew holds what Parse answers to R3.
func TestTreesAreNew(t *testing.T) {
	r := rand.New(rand.NewSource(92))
	for i := range 20000 {
		s := somePattern(r)
		if i == 0 {
			s = `(?<ab>\d\w[\d][[:alpha:]]\D|x)|\k<ab>(?:\d)\s\s`
		}
		p, _, _ := regex.Parse(s, false)
		want := apart(p)
		spoilRoom(p)
		if !same(p, want) || sharesText(p, s) || sharesLists(p) {
			t.Fatalf("Parse(%q): its lists or texts are not its own: %s", s, shown(p))
		}
	}
}

// spoilRoom overwrites what stands behind the ends of a tree's lists.
func spoilRoom(p api.Pat) {
	for i := len(p.Ranges); i < cap(p.Ranges); i++ {
		p.Ranges[:i+1][i] = api.Range{From: -7, To: -7}
	}
	for i := len(p.Sub); i < cap(p.Sub); i++ {
		p.Sub[:i+1][i] = api.Pat{Kind: -7}
	}
	for _, part := range p.Sub {
		spoilRoom(part)
	}
}

// sharesLists tells whether two lists of the tree are one.
func sharesLists(p api.Pat) bool {
	seen := map[unsafe.Pointer]bool{}
	return firstsOf(p, func(at unsafe.Pointer) bool {
		shared := seen[at]
		seen[at] = true
		return shared
	})
}

// firstsOf asks of the first part of each list, until one is.
func firstsOf(p api.Pat, is func(at unsafe.Pointer) bool) bool {
	return len(p.Ranges) > 0 && is(unsafe.Pointer(&p.Ranges[0])) || len(p.Sub) > 0 && is(unsafe.Pointer(&p.Sub[0])) ||
		slices.ContainsFunc(p.Sub, func(part api.Pat) bool { return firstsOf(part, is) })
}

// sharesText tells whether a text of the tree stands in s's memory.
func sharesText(p api.Pat, s string) bool {
	return isPart(p.Text, s) || slices.ContainsFunc(p.Sub, func(part api.Pat) bool { return sharesText(part, s) })
}

func isPart(part, s string) bool {
	if part == "" || s == "" {
		return false
	}
	from, at := uintptr(unsafe.Pointer(unsafe.StringData(s))), uintptr(unsafe.Pointer(unsafe.StringData(part)))
	return at >= from && at < from+uintptr(len(s))
}
