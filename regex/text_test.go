package regex_test

import (
	"strings"
	"testing"

	"colander/api"
	"colander/regex"
)

// P9.3: Text

func checkText(t *testing.T, p api.Pat, want string) {
	t.Helper()
	before := apart(p)
	text, e := regex.Text(p)
	if text != want || e != api.OK {
		t.Errorf("Text(%s) = %q, %d, want %q", shown(p), text, e, want)
	}
	if !same(p, before) {
		t.Errorf("Text changed %s", shown(before))
	}
	if q, at, e := regex.Parse(want, false); e != api.OK || !same(q, p) {
		t.Errorf("Parse(%q) = %s, %d, %d, want %s", want, shown(q), at, e, shown(p))
	}
}

func checkNoText(t *testing.T, p api.Pat) {
	t.Helper()
	if text, e := regex.Text(p); text != "" || e != api.ErrPat {
		t.Errorf("Text(%s) = %q, %d, want no text", shown(p), text, e)
	}
}

func TestTextsByHand(t *testing.T) {
	for _, x := range []struct {
		p    api.Pat
		want string
	}{
		// code points
		{a, "a"}, {chars(`*+?|()[]{}\^$.#`), `\*\+\?\|\(\)\[\]\{\}\\\^\$\.\#`}, {chars(` -&:,<>=!/'"_~@%;` + "`"), ` -&:,<>=!/'"_~@%;` + "`"}, {chars("é€😀\u0080\ufffd"), "é€😀\u0080\ufffd"}, {chars("09AZaz"), "09AZaz"},
		{char(0), `\x{0}`}, {char(9), `\x{9}`}, {char(10), `\x{a}`}, {char(27), `\x{1b}`}, {char(31), `\x{1f}`}, {char(32), " "}, {char(126), "~"}, {char(127), `\x{7f}`}, {char(128), "\u0080"}, {char(greatest), "\U0010ffff"}, {seq(char(10), a), `\x{a}a`},
		{dot, "."}, {seq(dot, char('.')), `.\.`},
		// sets
		{set('a', 'a'), "[a]"}, {notSet('a', 'a'), "[^a]"}, {set('a', 'b'), "[a-b]"}, {set('a', 'c'), "[a-c]"}, {set('a', 'a', 'c', 'e', 'g', 'g'), "[ac-eg]"}, {set(9, 13, 32, 32), `[\x{9}-\x{d} ]`}, {set(0, greatest), "[\\x{0}-\U0010ffff]"}, {notSet(0, 47, 58, greatest), "[^\\x{0}-/:-\U0010ffff]"}, {set(127, 127), `[\x{7f}]`}, {set('é', '€'), "[é-€]"},
		{set('[', '['), `[\[]`}, {set(']', ']'), `[\]]`}, {set('\\', '\\'), `[\\]`}, {set('^', '^'), `[\^]`}, {set('-', '-'), `[\-]`}, {set('&', '&'), `[\&]`}, {set('[', '^'), `[\[-\^]`}, {set('&', '-'), `[\&-\-]`}, {notSet('^', '^', 'a', 'a'), `[^\^a]`},
		{set('#', '$', '(', '+', '.', '.', '?', '?', '{', '}'), "[#-$(-+.?{-}]"}, {set(':', ':'), "[:]"}, {set('&', '&', '(', '('), `[\&(]`},
		// sequences and choices
		{empty, ""}, {seq(a, b), "ab"}, {seq(a, seq(b, c)), "a(?:bc)"}, {seq(seq(a, b), c), "(?:ab)c"}, {seq(a, alt(b, c)), "a(?:b|c)"}, {seq(empty, a), "(?:)a"}, {seq(empty, empty), "(?:)(?:)"}, {seq(seq(empty, a), alt(empty, empty)), "(?:(?:)a)(?:|)"},
		{alt(a, b), "a|b"}, {alt(a, empty), "a|"}, {alt(empty, empty, empty), "||"}, {alt(seq(a, b), c), "ab|c"}, {alt(alt(a, b), c), "(?:a|b)|c"}, {alt(a, alt(b, c)), "a|(?:b|c)"}, {alt(star(a), begin, look(a)), "a*|^|(?=a)"},
		// repeats
		{star(a), "a*"}, {rep(1, -1, 0, a), "a+"}, {rep(0, 1, 0, a), "a?"}, {rep(0, 0, 0, a), "a{0}"}, {rep(1, 1, 0, a), "a{1}"}, {rep(2, 2, 0, a), "a{2}"}, {rep(2, -1, 0, a), "a{2,}"}, {rep(0, 2, 0, a), "a{0,2}"}, {rep(1, 2, 0, a), "a{1,2}"}, {rep(1000, 1000, 0, a), "a{1000}"}, {rep(0, 1000, 0, a), "a{0,1000}"},
		{rep(0, -1, 1, a), "a*?"}, {rep(1, -1, 1, a), "a+?"}, {rep(0, 1, 1, a), "a??"}, {rep(2, 2, 1, a), "a{2}?"}, {rep(2, -1, 1, a), "a{2,}?"}, {rep(1, 2, 1, a), "a{1,2}?"}, {rep(0, -1, 2, a), "a*+"}, {rep(1, -1, 2, a), "a++"}, {rep(0, 1, 2, a), "a?+"},
		{star(seq(a, b)), "(?:ab)*"}, {star(alt(a, b)), "(?:a|b)*"}, {star(empty), "(?:)*"}, {star(star(a)), "(?:a*)*"}, {rep(0, 1, 0, star(a)), "(?:a*)?"}, {star(look(a)), "(?:(?=a))*"}, {star(begin), "(?:^)*"}, {star(end), "(?:$)*"}, {star(start), `(?:\A)*`}, {star(stop), `(?:\z)*`}, {star(last), `(?:\Z)*`}, {star(word), `(?:\b)*`}, {star(notWord), `(?:\B)*`},
		{star(dot), ".*"}, {star(set('a', 'a')), "[a]*"}, {star(group(1, "", a)), "(a)*"}, {star(atomic(a)), "(?>a)*"}, {star(char('*')), `\**`}, {star(char(10)), `\x{a}*`}, {seq(star(a), b), "a*b"}, {seq(a, star(seq(a, b))), "a(?:ab)*"},
		// parentheses
		{group(1, "", a), "(a)"}, {group(1, "", empty), "()"}, {group(1, "x", a), "(?<x>a)"}, {group(1, "", alt(a, seq(b, c))), "(a|bc)"}, {group(1, "", seq(a, group(2, "y", b))), "(a(?<y>b))"},
		{look(a), "(?=a)"}, {lookNot(a), "(?!a)"}, {lookBack(a), "(?<=a)"}, {lookNotBack(a), "(?<!a)"}, {look(alt(a, b)), "(?=a|b)"}, {lookBack(empty), "(?<=)"}, {atomic(a), "(?>a)"}, {atomic(alt(a, seq(b, c))), "(?>a|bc)"}, {seq(a, look(b), atomic(c)), "a(?=b)(?>c)"},
		{begin, "^"}, {end, "$"}, {start, `\A`}, {stop, `\z`}, {last, `\Z`}, {word, `\b`}, {notWord, `\B`}, {seq(begin, a, end), "^a$"}, {seq(word, b), `\bb`},
		// what leads back
		{seq(group(1, "", a), back(1)), `(a)\1`}, {seq(group(1, "x", a), backTo("x")), `(?<x>a)\k<x>`}, {seq(group(1, "x", a), back(1)), `(?<x>a)\1`}, {seq(back(1), group(1, "", a)), `\1(a)`}, {seq(group(1, "", a), back(1), a), `(a)\1a`},
		{seq(group(1, "", a), back(1), char('0')), `(a)(?:\1)0`}, {seq(group(1, "", a), back(1), char('9')), `(a)(?:\1)9`}, {seq(group(1, "", a), back(1), star(char('5'))), `(a)(?:\1)5*`}, {seq(group(1, "", a), back(1), rep(2, 3, 1, char('5'))), `(a)(?:\1)5{2,3}?`}, {seq(group(1, "", a), back(1), char('/')), `(a)\1/`}, {seq(group(1, "", a), back(1), char(':')), `(a)\1:`}, {seq(group(1, "", a), back(1), char('٣')), `(a)\1٣`},
		{seq(group(1, "", a), back(1), back(1)), `(a)\1\1`}, {seq(group(1, "", a), star(back(1)), char('0')), `(a)\1*0`}, {seq(group(1, "", a), back(1), set('0', '0')), `(a)\1[0]`}, {seq(group(1, "", a), back(1), seq(char('0'), a)), `(a)\1(?:0a)`}, {seq(group(1, "", a), back(1), star(seq(char('0'), a))), `(a)\1(?:0a)*`}, {seq(group(1, "", a), back(1), star(star(char('0')))), `(a)\1(?:0*)*`}, {seq(group(1, "", a), back(1), alt(char('0'), a)), `(a)\1(?:0|a)`}, {seq(group(1, "", a), back(1), empty, char('0')), `(a)\1(?:)0`},
		{seq(group(1, "x", a), backTo("x"), char('0')), `(?<x>a)\k<x>0`}, {alt(seq(group(1, "", a), back(1)), char('0')), `(a)\1|0`}, {seq(seq(group(1, "", a), back(1)), char('0')), `(?:(a)\1)0`}, {seq(group(1, "", back(1)), char('0')), `(\1)0`}, {seq(group(1, "", a), rep(2, 2, 0, back(1))), `(a)\1{2}`}, {seq(group(1, "", a), look(back(1)), char('0')), `(a)(?=\1)0`}, {seq(group(1, "", a), back(1), group(2, "", char('0'))), `(a)\1(0)`},
		{seq(append(groups(12), back(1), char('2'), back(12))...), strings.Repeat("()", 12) + `(?:\1)2\12`},
		// a { that is a code point
		{seq(a, char('{'), char('2'), char('}')), `a\{2\}`}, {seq(star(a), char('+')), `a*\+`}, {seq(star(a), char('?')), `a*\?`}, {seq(rep(2, 2, 0, a), char('?')), `a{2}\?`},
		// the chapter's example
		{alt(a, seq(star(b), c)), "a|b*c"},
	} {
		checkText(t, x.p, x.want)
	}
}

func TestTreesWithoutText(t *testing.T) {
	for _, counts := range [][2]int{{0, 0}, {1, 1}, {2, 2}, {2, -1}, {0, 2}, {1, 2}, {1000, 1000}} {
		p := rep(counts[0], counts[1], api.ModeSure, a)
		checkTaken(t, p, true)
		checkNoText(t, p)
		checkNoText(t, seq(a, group(1, "", p)))
	}
	checkNoText(t, api.Pat{})
	checkNoText(t, char(-1))
	checkNoText(t, back(1))
}

// many is a sequence of n times p.
func many(n int, p api.Pat) api.Pat {
	out := api.Pat{Kind: api.XSeq}
	for range n {
		out.Sub = append(out.Sub, p)
	}
	return out
}

func TestTextsOfManyBytes(t *testing.T) {
	for _, x := range []struct {
		p    api.Pat
		text string
	}{
		{a, "a"}, {char('*'), `\*`}, {char('é'), "é"}, {char('😀'), "😀"}, {set('a', 'b', 'x', 'x', 'z', 'z'), "[a-bxz]"}, {rep(2, 2, 0, char(10)), `\x{a}{2}`}, {look(empty), "(?=)"}, {empty, "(?:)"}, {dot, "."}, {word, `\b`},
	} {
		most := 4096 / len(x.text)
		full := many(most, x.p)
		for range 4096 - most*len(x.text) {
			full.Sub = append(full.Sub, b)
		}
		checkText(t, full, strings.Repeat(x.text, most)+strings.Repeat("b", 4096-most*len(x.text)))
		checkTaken(t, seq(full.Sub...), true)
		checkNoText(t, seq(append(full.Sub, b)...))
		checkNoText(t, group(1, "", full))
		checkNoText(t, star(full))
		checkNoText(t, alt(full, empty))
		checkNoText(t, many(most+1, x.p))
	}
	checkNoText(t, many(1<<20, a))
	var ranges []int
	for n := range 3000 {
		ranges = append(ranges, 1000+2*n, 1000+2*n)
	}
	checkTaken(t, set(ranges...), true)
	checkNoText(t, set(ranges...))
	checkText(t, alt(many(4095, a), empty), strings.Repeat("a", 4095)+"|")
	checkText(t, group(1, "", many(4094, a)), "("+strings.Repeat("a", 4094)+")")
	checkText(t, rep(0, 1, 1, group(1, "", many(4092, a))), "("+strings.Repeat("a", 4092)+")??")
}

func TestTextsOfDeepTrees(t *testing.T) {
	inSeq := func(p api.Pat) api.Pat { return seq(a, p) }
	inAlt := func(p api.Pat) api.Pat { return alt(a, p) }
	inStar := func(p api.Pat) api.Pat { return star(p) }
	for _, x := range []struct {
		inner  api.Pat
		wrap   func(p api.Pat) api.Pat
		levels int // with which parentheses are 100 deep
		head   string
		tail   string
	}{
		{a, look, 100, "(?=", ")"}, {a, lookNot, 100, "(?!", ")"}, {a, lookBack, 100, "(?<=", ")"}, {a, lookNotBack, 100, "(?<!", ")"}, {a, atomic, 100, "(?>", ")"},
		{alt(a, b), inAlt, 100, "a|(?:", ")"}, {seq(a, b), inSeq, 100, "a(?:", ")"}, {star(a), inStar, 100, "(?:", ")*"},
	} {
		inner, _ := regex.Text(x.inner)
		checkText(t, deep(x.levels, x.inner, x.wrap), strings.Repeat(x.head, 100)+inner+strings.Repeat(x.tail, 100))
		checkTaken(t, deep(x.levels+1, x.inner, x.wrap), true)
		checkNoText(t, deep(x.levels+1, x.inner, x.wrap))
		checkNoText(t, deep(x.levels, group(1, "", group(2, "", a)), x.wrap))
	}
	p := a
	for n := 100; n > 0; n-- {
		p = group(n, "", p)
	}
	checkText(t, p, strings.Repeat("(", 100)+"a"+strings.Repeat(")", 100))
	checkNoText(t, look(p))
	checkNoText(t, star(seq(a, p)))

	// The parentheses round what leads back count, too.
	led := func(next api.Pat) api.Pat { return seq(group(1, "", a), deep(99, seq(back(1), next), look)) }
	checkText(t, led(char('0')), "(a)"+strings.Repeat("(?=", 99)+`(?:\1)0`+strings.Repeat(")", 99))
	checkNoText(t, seq(group(1, "", a), deep(100, seq(back(1), char('0')), look)))
	checkText(t, seq(group(1, "", a), deep(100, seq(back(1), b), look)), "(a)"+strings.Repeat("(?=", 100)+`\1b`+strings.Repeat(")", 100))
	checkText(t, many(200, look(a)), strings.Repeat("(?=a)", 200))
}
