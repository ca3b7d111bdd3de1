package matcher_test

import (
	"math/rand"
	"regexp"
	"slices"
	"strings"
	"testing"

	"colander/api"
	"colander/matcher"
	"colander/regex"
	"colander/sample"
)

// P10.2

// TestStepsByHand counts each asking of each node.
func TestStepsByHand(t *testing.T) {
	for _, x := range []struct {
		pattern, flags, text, hits string
		steps                      int
	}{
		{``, "", "", "0:0", 1},
		{``, "g", "ab", "0:0, 1:1, 2:2", 3},
		{`a`, "", "", "", 1},
		{`a`, "", "ba", "1:2", 2},
		{`a`, "", "bb", "", 3},
		{`a`, "g", "aba", "0:1, 2:3", 4},
		{`.`, "g", "a\nb", "0:1, 2:3", 4},
		{`.`, "gp", "a\nb", "0:1, 1:2, 2:3", 4},
		{`[b-d]`, "g", "abd", "1:2, 2:3", 4},
		{`ab`, "", "aab", "1:3", 6},
		{`a|b`, "", "b", "0:1", 3},
		{`a|b`, "", "a", "0:1", 2},
		{`a*`, "", "aa", "0:2", 4},
		{`a*?`, "", "aa", "0:0", 1},
		{`a*b`, "", "aab", "0:3", 6},
		{`a*?b`, "", "aab", "0:3", 7},
		{`a{2}`, "", "aaa", "0:2", 3},
		{`a{2}`, "", "a", "", 5},
		{`a{0}`, "", "a", "0:0", 1},
		{`a{,1}`, "", "aa", "0:1", 2},
		{`a{2,3}?`, "", "aaaa", "0:2", 3},
		{`(?:){3}`, "", "", "0:0", 4},
		{`(?:){2,}`, "", "", "0:0", 4},
		{`(?:)*`, "", "", "0:0", 2},
		{`(a)|b`, "g", "xab", "1:2 1:2, 2:3 -", 15},
		{`a++a`, "", "aaa", "", 21},
		{`(?:a|ab)*+c`, "", "abc", "2:3", 23},
		{`(?>a|ab)c`, "", "abc", "", 23},
		{`(?=a)a`, "", "ba", "1:2", 7},
		{`(?!a).`, "", "ab", "1:2", 7},
		{`(?<=a)b`, "", "ab", "1:2", 8},
		{`(?<!a)b`, "", "ab", "", 14},
		{`(a)\1`, "", "aa", "0:2 0:1", 4},
		{`\1(a)`, "", "aa", "", 6},
		{`(?:\1b|(a))*`, "", "aab", "0:3 0:1", 15},
		{`a|ab|abc`, "l", "abcd", "0:3", 9},
		{`a*`, "n", "ba", "1:2", 5},
		{`a*?`, "n", "aa", "0:1", 2},
		{`a*?`, "l", "aa", "0:2", 4},
		{`^a`, "g", "aa", "0:1", 7},
		{`\A`, "g", "ab", "0:0", 3},
		{`\z`, "", "ab", "2:2", 3},
	} {
		p, r := parsed(t, x.pattern, x.flags)
		hits, steps, code := matcher.All(p, x.text, r, 1000)
		if hitsText(hits) != x.hits || steps != x.steps || code != api.OK {
			t.Errorf("All(%s, %q) with %q = %s, %d, %d, want %s, %d", x.pattern, x.text, x.flags, hitsText(hits), steps, code, x.hits, x.steps)
		}
		checkAll(t, p, x.text, r, 1000)
	}
}

// row is a pattern, its flags, a text and the hits in it, or a few of them with blanks between.
type row struct{ pattern, flags, text, hits string }

func checkRows(t *testing.T, rows []row) {
	t.Helper()
	for _, x := range rows {
		p, r := parsed(t, x.pattern, x.flags)
		hits, _, code := matcher.All(p, x.text, r, 10000)
		if hitsText(hits) != x.hits || code != api.OK {
			t.Errorf("All(%s, %q) with %q = %s, %d, want %s", x.pattern, x.text, x.flags, hitsText(hits), code, x.hits)
		}
		checkAll(t, p, x.text, r, 10000)
	}
}

func TestCodePointsByHand(t *testing.T) {
	checkRows(t, []row{
		{`b`, "g", "éb😀b", "1:2, 3:4"},
		{`é`, "g", "éeé", "0:1, 2:3"},
		{`e`, "", "é", ""},
		{`.`, "g", "é\xff\xfe😀", "0:1, 1:2, 2:3, 3:4"},
		{`b`, "", "\xe2\x82b", "2:3"},
		{`\x{fffd}`, "g", "\xff\uFFFDa", "0:1, 1:2"},
		{`[\x{f000}-\x{ffff}]`, "g", "\xff\xee\x80", "0:1, 1:2, 2:3"},
		{`(.)\1`, "", "\xff\xfe", "0:2 0:1"},
		{`\x00`, "", "a\x00", "1:2"},
		{`.`, "", "\n", ""},
		{`.`, "p", "\n", "0:1"},
		{`.`, "s", "\n", ""},
		{`.`, "", "\r", "0:1"},
		{`[a-c]`, "g", "`abcd", "1:2, 2:3, 3:4"},
		{`[^a-c]`, "g", "`abcd\n", "0:1, 4:5, 5:6"},
		{`[a-cx-z]`, "g", "cdwxyz{", "0:1, 3:4, 4:5, 5:6"},
		{`[acegikmoqsuwy]`, "g", "abyz`", "0:1, 2:3"},
		{`[^\x{0}-\x{10ffff}]`, "", "ab", ""},
		{`\d`, "g", "/09:٣", "1:2, 2:3"},
		{`a b`, "", "a b", "0:3"},
		{`a b`, "x", "a b", ""},
		{`a b`, "x", "ab", "0:2"},
	})
}

func TestFoldByHand(t *testing.T) {
	checkRows(t, []row{
		{`a`, "gi", "aAbB", "0:1, 1:2"},
		{`A`, "gi", "aAbB", "0:1, 1:2"},
		{`a`, "g", "aAbB", "0:1"},
		{`Z`, "gi", "zZ{[", "0:1, 1:2"},
		{`@`, "gi", "@`", "0:1"},
		{"`", "gi", "@`", "1:2"},
		{`\[`, "gi", "[{", "0:1"},
		{`\{`, "gi", "[{", "1:2"},
		{`é`, "gi", "éÉ", "0:1"},
		{`É`, "gi", "éÉ", "1:2"},
		{`k`, "gi", "kK\u212a", "0:1, 1:2"},
		{`s`, "gi", "ſ", ""},
		{`ſ`, "gi", "sSſ", "2:3"},
		{`[b-d]`, "gi", "aBCDe", "1:2, 2:3, 3:4"},
		{`[^b-d]`, "gi", "aBcDE", "0:1, 4:5"},
		{`[Y-b]`, "gi", "xXyYzZaAbBcC", "2:3, 3:4, 4:5, 5:6, 6:7, 7:8, 8:9, 9:10"},
		{`[^A]`, "gi", "aAb", "2:3"},
		{`[@]`, "gi", "@`", "0:1"},
		{`[à-ý]`, "gi", "éÉ", "0:1"},
		{`(a)\1`, "i", "aA", "0:2 0:1"},
		{`(a)\1`, "", "aA", ""},
		{`(aBé)\1`, "i", "AbéaBé", "0:6 0:3"},
		{`(é)\1`, "i", "éÉ", ""},
		{`(@)\1`, "i", "@`", ""},
		{`\x41\u0042`, "i", "ab", "0:2"},
		{`\bA`, "i", "a", "0:1"},
	})
}

func TestPlacesByHand(t *testing.T) {
	checkRows(t, []row{
		{`^`, "g", "a\nb", "0:0"},
		{`\A`, "g", "a\nb", "0:0"},
		{`\z`, "g", "a\n", "2:2"},
		{`$`, "g", "a\nb\n", "3:3, 4:4"},
		{`\Z`, "g", "a\nb\n", "3:3, 4:4"},
		{`$`, "g", "a\n\n", "2:2, 3:3"},
		{`\Z`, "g", "\n\n\n", "2:2, 3:3"},
		{`$`, "g", "\n", "0:0, 1:1"},
		{`$`, "g", "a\nb", "3:3"},
		{`$`, "g", "a\r", "2:2"},
		{`^`, "g", "", "0:0"},
		{`$`, "g", "", "0:0"},
		{`\A\z\Z^$`, "g", "", "0:0"},
		{`\b`, "g", "", ""},
		{`\B`, "g", "", "0:0"},
		{`\b`, "g", "ab_1 é", "0:0, 4:4"},
		{`\B`, "g", "ab_1 é", "1:1, 2:2, 3:3, 5:5, 6:6"},
		{`\b`, "g", "éa-Z", "1:1, 2:2, 3:3, 4:4"},
		{`\b`, "g", "a[`@/:{Z", "0:0, 1:1, 7:7, 8:8"},
		{`\b`, "g", "-", ""},
		{`\b`, "g", "a", "0:0, 1:1"},
		{`\b.`, "g", "\xffa", "1:2"},
	})
}

func TestGroupsByHand(t *testing.T) {
	checkRows(t, []row{
		{`(a|ab)(c|bcd)`, "", "abcd", "0:4 0:1 1:4"},
		{`(?:(a)x|ab)`, "", "ab", "0:2 -"},
		{`(?:(a)x|(a)b)`, "", "ab", "0:2 - 0:1"},
		{`(?:(a)|b)*`, "", "ab", "0:2 0:1"},
		{`(?:(a)|(b))*`, "", "ab", "0:2 0:1 1:2"},
		{`((a)|b)*`, "", "ab", "0:2 1:2 0:1"},
		{`(?:(a)|b)*?c`, "", "abc", "0:3 0:1"},
		{`(a)(b)?`, "g", "aab", "0:1 0:1 -, 1:3 1:2 2:3"},
		{`()`, "", "a", "0:0 0:0"},
		{`(?<x>a)\k<x>`, "", "baa", "1:3 1:2"},
		{`(?<x>a)(b)\k<x>\2`, "", "abab", "0:4 0:1 1:2"},
		{`\k<x>(?<x>a)`, "", "aa", ""},
		{`(?:\k<y>c|(?<x>a)|(?<y>b))*`, "", "abbc", "0:4 0:1 1:2"},
		{`()\1`, "", "a", "0:0 0:0"},
		{`(a\1)`, "", "aa", ""},
		{`(?:(\1a|b))*`, "", "bbaba", "0:4 3:4"},
		{`(a*)\1`, "", "aaaaa", "0:4 0:2"},
		{`(a*?)\1b`, "", "aaaab", "0:5 0:2"},
		{`(é😀)\1`, "", "é😀é😀", "0:4 0:2"},
		{`(ab)\1`, "", "aba", ""},
		{`(a)|b\1`, "g", "bab", "1:2 1:2"},
	})
}

func TestRepeatsByHand(t *testing.T) {
	checkRows(t, []row{
		{`a*?b`, "", "aab", "0:3"},
		{`(a*)*b`, "", "aaa", ""},
		{`(a*)*`, "", "aa", "0:2 0:2"},
		{`(a*)+`, "", "aa", "0:2 0:2"},
		{`(a*)+`, "", "", "0:0 0:0"},
		{`(a*)*`, "", "", "0:0 -"},
		{`(|a)*`, "", "aa", "0:2 1:2"},
		{`(|a)+`, "", "aa", "0:2 1:2"},
		{`(|a)+?`, "", "aa", "0:0 0:0"},
		{`(|a)++`, "", "aa", "0:2 1:2"},
		{`(a|b){2}`, "", "aba", "0:2 1:2"},
		{`(?:a|ab){2}c`, "", "aabc", "0:4"},
		{`a{2,3}`, "g", "aaaaaa", "0:3, 3:6"},
		{`a{2,}`, "", "aaaaa", "0:5"},
		{`a{2,}?`, "", "aaaaa", "0:2"},
		{`a{2,}?b`, "", "aaaab", "0:5"},
		{`a{,2}`, "", "aaa", "0:2"},
		{`a{3}`, "", "aa", ""},
		{`a?`, "", "aa", "0:1"},
		{`a??`, "", "aa", "0:0"},
		{`a?+a`, "", "a", ""},
		{`a?+a`, "", "aa", "0:2"},
		{`a*+b`, "", "aab", "0:3"},
		{`(a|b)*+c`, "", "abc", "0:3 1:2"},
		{`(?:a?){3}`, "", "aa", "0:2"},
		{`(a?){3}`, "", "aa", "0:2 2:2"},
		{`(a?){3,5}`, "", "aa", "0:2 2:2"},
		{`(a??){2,}b`, "", "aab", "0:3 1:2"},
		{`(?:(a)|b){0}`, "", "ab", "0:0 -"},
		{`(a)++x|a`, "", "ay", "0:1 -"},
		{`(?:(a)++x|ay)`, "", "ay", "0:2 -"},
	})
}

func TestLooksByHand(t *testing.T) {
	checkRows(t, []row{
		{`(?=(a))`, "", "a", "0:0 0:1"},
		{`(?=(a|ab))\1c`, "", "abc", ""},
		{`(?=(a*))a\1`, "", "aaa", ""},
		{`(?=(a*?))b`, "", "b", "0:1 0:0"},
		{`(?!(a))`, "", "b", "0:0 -"},
		{`(?!(a)b)a`, "", "ac", "0:1 -"},
		{`(?!(a)b)a`, "", "ab", ""},
		{`(?<=(a))b`, "", "ab", "1:2 0:1"},
		{`(?<=(a|ba))c`, "", "bac", "2:3 1:2"},
		{`(?<=(ba|a))c`, "", "bac", "2:3 1:2"},
		{`(?<=(a+))c`, "", "aac", "2:3 1:2"},
		{`(?<=^(a+))c`, "", "aac", "2:3 0:2"},
		{`(?<=a|^)b`, "g", "bab", "0:1, 2:3"},
		{`(?<!a)b`, "g", "bab", "0:1"},
		{`(?<!(a))b`, "g", "bab", "0:1 -"},
		{`(?<=(?=(a))a)b`, "", "ab", "1:2 0:1"},
		{`(?<=a(?!c))b`, "", "ab", "1:2"},
		{`(?=(a)).x|a`, "", "ay", "0:1 -"},
		{`(?>(a)).x|a`, "", "ay", "0:1 -"},
		{`(?>a|ab)c`, "", "abc", ""},
		{`(?>ab|a)c`, "", "abc", "0:3"},
		{`(?>(a*))b`, "", "aab", "0:3 0:2"},
		{`(?>a*?)b`, "", "ab", "1:2"},
		{`(?!)`, "", "a", ""},
		{`(?=)`, "", "a", "0:0"},
		{`(?<=)`, "g", "a", "0:0, 1:1"},
		{`(?<!)`, "", "a", ""},
		{`(?:(?=(a|b)).)*`, "", "ab", "0:2 1:2"},
	})
}

// TestSureRepeatsWithCounts are ones that no pattern writes.
func TestSureRepeatsWithCounts(t *testing.T) {
	for s, want := range map[string]string{"aaab": "0:4 1:2", "aab": "", "aaaab": "1:5 2:3", "ab": ""} {
		p, _ := parsed(t, `(?:(a))++ab`, "")
		p.Sub[0].Min, p.Sub[0].Max = 2, 2
		hits, _, code := matcher.All(p, s, api.Rules{}, 1000)
		if hitsText(hits) != want || code != api.OK {
			t.Errorf("(a){2}+ab in %s: %s, %d, want %s", s, hitsText(hits), code, want)
		}
	}
	p, _ := parsed(t, `a++a`, "")
	p.Sub[0].Min, p.Sub[0].Max = 1, 3
	for s, want := range map[string]string{"aaaa": "0:4", "aaa": "", "baaaaa": "1:5"} {
		hits, _, code := matcher.All(p, s, api.Rules{}, 1000)
		if hitsText(hits) != want || code != api.OK {
			t.Errorf("a{1,3}+a in %s: %s, %d, want %s", s, hitsText(hits), code, want)
		}
	}
}

// textsOf answers all texts of at most so many of these pieces.
func textsOf(most int, pieces ...string) []string {
	out, longest := []string{""}, []string{""}
	for range most {
		var longer []string
		for _, s := range longest {
			for _, piece := range pieces {
				longer = append(longer, s+piece)
			}
		}
		out, longest = append(out, longer...), longer
	}
	return out
}

// TestAllShortPatterns holds what is found to the model, for all patterns of a few tokens in all short texts, by any rules.
func TestAllShortPatterns(t *testing.T) {
	r := rand.New(rand.NewSource(102))
	for _, x := range []struct {
		most   int
		tokens string
		texts  []string
	}{
		{6, `a b | ( ) * ?`, textsOf(3, "a", "b")},
		{5, `a (?:a|b) ( ) | + {2} {,2} {1,} ?`, textsOf(4, "a", "b")},
		{4, `a . (?= (?! (?<= (?<! (?> ) * |`, textsOf(3, "a", "b")},
		{4, `a . ^ $ \A \z \Z \b \B \n [^a]`, textsOf(4, "a", "\n", "-")},
		{4, `(a|b) (?<x>b*) \1 \2 \k<x> a + |`, textsOf(4, "a", "b")},
		{4, `a B [a] [^a] [^B-C] (a) \1 * é`, textsOf(3, "a", "A", "b", "é")},
	} {
		for _, pattern := range textsOf(x.most, strings.Fields(x.tokens)...) {
			p, _, code := regex.Parse(pattern, false)
			if code != api.OK {
				continue
			}
			for range 5 {
				s, rules := x.texts[r.Intn(len(x.texts))], someRules(r)
				checkAll(t, p, s, rules, 2000)
			}
			checkAll(t, p, x.texts[r.Intn(len(x.texts))], api.Rules{Global: true}, 2000)
		}
	}
}

// TestAnyTrees holds what is found to the model, for any trees in any texts.
func TestAnyTrees(t *testing.T) {
	r := rand.New(rand.NewSource(103))
	found := 0
	for range 150000 {
		m := &maker{r: r, points: []string{"ab", "aAb", "aé😀", "ab\n", "a-_1", "aZ@`[{"}[r.Intn(6)]}
		p := m.tree(1 + r.Intn(4))
		s := someText(r, 8, m.points+"a\xff")
		rules := someRules(r)
		before, own := sample.ApartPat(p), strings.Clone(s)
		found += checkAll(t, p, s, rules, 1+r.Intn(5000))
		checkAt(t, p, s, r.Intn(10)-1, rules, 1+r.Intn(3000))
		if !sample.SamePat(p, before) || s != own {
			t.Fatalf("the pattern %s was changed", shown(before))
		}
	}
	if found < 50000 {
		t.Errorf("no more than %d hits", found)
	}
}

// goesRoundEmpty tells whether a repeat may go round without a code point: there Go's own regular expressions go another way.
func goesRoundEmpty(p api.Pat) bool {
	return p.Kind == api.XRepeat && mayBeEmpty(p.Sub[0]) || slices.ContainsFunc(p.Sub, goesRoundEmpty)
}

func mayBeEmpty(p api.Pat) bool {
	switch p.Kind {
	case api.XChar, api.XAny, api.XSet:
		return false
	case api.XSeq:
		return !slices.ContainsFunc(p.Sub, func(p api.Pat) bool { return !mayBeEmpty(p) })
	case api.XAlt, api.XGroup:
		return slices.ContainsFunc(p.Sub, mayBeEmpty)
	case api.XRepeat:
		return p.Min == 0 || mayBeEmpty(p.Sub[0])
	}
	return true
}

// TestAsGoFinds holds what is found to Go's own regular expressions, where these know the pattern.
func TestAsGoFinds(t *testing.T) {
	r := rand.New(rand.NewSource(104))
	found := 0
	for range 40000 {
		m := &maker{r: r, points: "aAb1-", plain: true}
		p := m.tree(1 + r.Intn(4))
		if goesRoundEmpty(p) {
			continue
		}
		rules := api.Rules{Fold: r.Intn(3) == 0, Dot: r.Intn(2) == 0, Longest: r.Intn(4) == 0}
		form, _ := regex.Text(p)
		if rules.Fold {
			form = "(?i:" + form + ")"
		}
		if rules.Dot {
			form = "(?s:" + form + ")"
		}
		own := regexp.MustCompile(form)
		if rules.Longest {
			own.Longest()
		}
		s := someText(r, 8, "aaaAb1-\n")
		want := own.FindStringSubmatchIndex(s)
		if rules.Longest {
			want = want[:min(2, len(want))] // which of several as long it takes is its own
		}
		hit, ok, _, code := matcher.At(p, s, 0, rules, api.MaxAsk)
		if code != api.OK || ok != (want != nil) {
			t.Fatalf("At(%s, %q) = %v, %d; Go's own: %v", form, s, ok, code, want)
		}
		var got []int
		if ok {
			found++
			got = []int{hit.At.From, hit.At.To}
			for _, g := range hit.Groups {
				got = append(got, g.From, g.To)
			}
		}
		if rules.Longest {
			got = got[:min(2, len(got))]
		}
		if !slices.Equal(got, want) {
			t.Fatalf("At(%s, %q) = %v; Go's own: %v", form, s, got, want)
		}
	}
	if found < 8000 {
		t.Errorf("no more than %d hits", found)
	}
}
