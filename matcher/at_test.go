package matcher_test

import (
	"math"
	"math/rand"
	"slices"
	"strings"
	"testing"
	"time"

	"colander/api"
	"colander/matcher"
)

// P10.3

func TestAtByHand(t *testing.T) {
	for _, x := range []struct {
		pattern, flags, text string
		from                 int
		want                 string // "" where there is none
		steps                int
	}{
		{`a`, "", "aba", 0, "0:1", 1},
		{`a`, "", "aba", 1, "2:3", 2},
		{`a`, "", "aba", 2, "2:3", 1},
		{`a`, "", "aba", 3, "", 1},
		{`a`, "g", "aba", 0, "0:1", 1},
		{``, "", "éé", 2, "2:2", 1},
		{`é`, "", "éé", 1, "1:2", 1},
		{`^`, "", "aa", 1, "", 2},
		{`\A`, "", "aa", 1, "", 2},
		{`(?<=a)b`, "", "ab", 1, "1:2", 5},
		{`(?<=(a))b`, "", "ab", 1, "1:2 0:1", 7},
		{`\b`, "", "ab", 1, "2:2", 2},
		{`$`, "", "a\n", 2, "2:2", 1},
		{`a*`, "n", "baa", 0, "1:3", 6},
		{`a*`, "n", "b", 0, "", 4},
		{`|a`, "n", "a", 0, "0:1", 3},
		{`|a`, "n", "b", 1, "", 3},
		{`a*?`, "l", "aab", 0, "0:2", 4},
		{`|ab|a`, "l", "ab", 0, "0:2", 6},
		{`(a)(b)?|(ab)`, "l", "ab", 0, "0:2 0:1 1:2 -", 11},
		{`a??`, "ln", "aa", 0, "0:1", 2},
		{`()|a??`, "ln", "ba", 0, "1:2 -", 10},
	} {
		p, r := parsed(t, x.pattern, x.flags)
		hit, found, steps, code := matcher.At(p, x.text, x.from, r, 1000)
		if found != (x.want != "") || found && hitText(hit) != x.want || steps != x.steps || code != api.OK {
			t.Errorf("At(%s, %q, %d) with %q = %s, %v, %d, %d, want %s, %d", x.pattern, x.text, x.from, x.flags, hitText(hit), found, steps, code, x.want, x.steps)
		}
		if !found && !sameHit(hit, api.Hit{}) {
			t.Errorf("At(%s, %q, %d) finds nothing, and answers %s", x.pattern, x.text, x.from, hitText(hit))
		}
		checkAt(t, p, x.text, x.from, r, 1000)
	}
}

func TestAllByHand(t *testing.T) {
	checkRows(t, []row{
		{`a*`, "g", "baac", "0:0, 1:3, 3:3, 4:4"},
		{`a*`, "gn", "baac", "1:3"},
		{`a*`, "", "baac", "0:0"},
		{`a`, "", "aaa", "0:1"},
		{`a`, "g", "aaa", "0:1, 1:2, 2:3"},
		{`aa`, "g", "aaaaa", "0:2, 2:4"},
		{`aa|`, "g", "aaa", "0:2, 2:2, 3:3"},
		{`x`, "g", "aaa", ""},
		{`x`, "g", "", ""},
		{``, "g", "", "0:0"},
		{``, "gn", "ab", ""},
		{`|a`, "g", "aa", "0:0, 1:1, 2:2"},
		{`|a`, "gl", "aa", "0:1, 1:2, 2:2"},
		{`|a`, "gn", "aa", "0:1, 1:2"},
		{`(?=(.))`, "g", "ab", "0:0 0:1, 1:1 1:2"},
		{`(?<=(.))`, "g", "ab", "1:1 0:1, 2:2 1:2"},
		{`(a)|(b)`, "g", "ab", "0:1 0:1 -, 1:2 - 1:2"},
		{`a.*?|b`, "gl", "cbab", "1:2, 2:4"},
		{`a\z|b|(?<=b)`, "g", "bba", "0:1, 1:2, 2:3"},
		{`b|(?<=b)`, "g", "bba", "0:1, 1:2, 2:2"},
	})
}

func TestWhatIsRefused(t *testing.T) {
	good, _ := parsed(t, `é`, "")
	bad := api.Pat{Kind: api.XRepeat}
	for _, x := range []struct {
		p    api.Pat
		from int
		fuel int
		want api.Errno
	}{
		{good, 0, 1, api.ErrFuel}, {good, 1, 1, api.OK}, {good, 2, 1, api.OK}, {good, 0, 200000, api.OK}, {good, 2, 200000, api.OK},
		{good, -1, 10, api.ErrArg}, {good, 3, 10, api.ErrArg}, {good, 5, 10, api.ErrArg}, {good, math.MinInt, 10, api.ErrArg}, {good, math.MaxInt, 10, api.ErrArg},
		{good, 0, 0, api.ErrArg}, {good, 0, -1, api.ErrArg}, {good, 0, 200001, api.ErrArg}, {good, 0, math.MinInt, api.ErrArg}, {good, 0, math.MaxInt, api.ErrArg},
		{bad, 0, 10, api.ErrPat}, {bad, -1, 10, api.ErrPat}, {bad, 3, 10, api.ErrPat}, {bad, 0, 0, api.ErrPat}, {bad, 0, 200001, api.ErrPat},
		{api.Pat{}, 0, 10, api.ErrPat}, {api.Pat{Kind: api.XBack, N: 1}, 0, 10, api.ErrPat}, {api.Pat{Kind: api.XBack, Text: "x"}, 0, 10, api.ErrPat}, {api.Pat{Kind: api.XGroup, N: 2, Sub: []api.Pat{good}}, 0, 10, api.ErrPat},
	} {
		const text = "aé" // of three bytes
		hit, found, steps, code := matcher.At(x.p, text, x.from, api.Rules{}, x.fuel)
		if code != x.want || code != api.OK && (found || !sameHit(hit, api.Hit{})) || (code == api.ErrPat || code == api.ErrArg) && steps != 0 || code == api.ErrFuel && steps != x.fuel {
			t.Errorf("At(%s, from %d, fuel %d) = %s, %v, %d, %d, want %d", shown(x.p), x.from, x.fuel, hitText(hit), found, steps, code, x.want)
		}
		checkAt(t, x.p, text, x.from, api.Rules{}, x.fuel)
		if x.from == 0 {
			hits, steps, code := matcher.All(x.p, text, api.Rules{Global: true}, x.fuel)
			if code != x.want || code != api.OK && len(hits) != 0 || (code == api.ErrPat || code == api.ErrArg) && steps != 0 || code == api.ErrFuel && steps != x.fuel {
				t.Errorf("All(%s, fuel %d) = %s, %d, %d, want %d", shown(x.p), x.fuel, hitsText(hits), steps, code, x.want)
			}
			checkAll(t, x.p, text, api.Rules{Global: true}, x.fuel)
		}
	}
}

// TestFuelIsForAllTogether: hits that came ahead of the end of the fuel are not answered.
func TestFuelIsForAllTogether(t *testing.T) {
	p, r := parsed(t, `a`, "g")
	for fuel := 1; fuel < 10; fuel++ {
		hits, steps, code := matcher.All(p, "aaa", r, fuel)
		want, wantHits, wantSteps := api.OK, 3, 4
		if fuel < 4 {
			want, wantHits, wantSteps = api.ErrFuel, 0, fuel
		}
		if len(hits) != wantHits || steps != wantSteps || code != want {
			t.Errorf("fuel %d: %s, %d, %d", fuel, hitsText(hits), steps, code)
		}
	}
	p, r = parsed(t, ``, "g")
	if hits, steps, code := matcher.All(p, "aaa", r, 4); hitsText(hits) != "0:0, 1:1, 2:2, 3:3" || steps != 4 || code != api.OK {
		t.Error("as much fuel as steps:", hitsText(hits), steps, code)
	}
}

// TestMostSteps goes to the greatest fuel, deep and long.
func TestMostSteps(t *testing.T) {
	for _, x := range []struct {
		pattern, flags, text string
		fuel, steps          int
		code                 api.Errno
	}{
		{`a`, "", strings.Repeat("b", 199999), 200000, 200000, api.OK},
		{`a`, "", strings.Repeat("b", 200000), 200000, 200000, api.ErrFuel},
		{`a`, "g", strings.Repeat("a", 199999), 200000, 200000, api.OK},
		{`a*`, "", strings.Repeat("a", 199998), 200000, 200000, api.OK},
		{`a*`, "", strings.Repeat("a", 199998), 199999, 199999, api.ErrFuel},
		{`(?:(a)|b)*c`, "", strings.Repeat("a", 200000), 200000, 200000, api.ErrFuel},
		{`(?:a|b)*`, "", strings.Repeat("b", 60000), 200000, 180004, api.OK},
		{`(?:(?:){1000}){1000}`, "", "", 200000, 200000, api.ErrFuel},
		{`(?:(?:){1000}?){1000}?`, "", "", 200000, 200000, api.ErrFuel},
		{`(a*)*b`, "", strings.Repeat("a", 30), 200000, 200000, api.ErrFuel},
		{`(?:a?){30}a{30}`, "", strings.Repeat("a", 30), 200000, 200000, api.ErrFuel},
		{`.*`, "lp", strings.Repeat("é", 199998), 200000, 200000, api.OK},
		{`(?<=(?<=a.*)b)c`, "", strings.Repeat("b", 1000), 200000, 200000, api.ErrFuel},
	} {
		p, r := parsed(t, x.pattern, x.flags)
		now := time.Now()
		hits, steps, code := matcher.All(p, x.text, r, x.fuel)
		if steps != x.steps || code != x.code {
			t.Errorf("All(%s) in %d bytes: %d hits, %d, %d", x.pattern, len(x.text), len(hits), steps, code)
		}
		if took := time.Since(now); took > 5*time.Second {
			t.Errorf("All(%s) in %d bytes takes %v", x.pattern, len(x.text), took)
		}
	}
}

// nested is a pattern within so many levels.
func nested(levels int, p api.Pat, wrap func(p api.Pat) api.Pat) api.Pat {
	for range levels {
		p = wrap(p)
	}
	return p
}

// TestLargeTrees are deep ones and wide ones.
func TestLargeTrees(t *testing.T) {
	a := api.Pat{Kind: api.XChar, N: 'a'}
	for name, wrap := range map[string]func(p api.Pat) api.Pat{
		"atomic": func(p api.Pat) api.Pat { return api.Pat{Kind: api.XAtomic, Sub: []api.Pat{p}} },
		"look":   func(p api.Pat) api.Pat { return api.Pat{Kind: api.XLook, Sub: []api.Pat{p}} },
		"once":   func(p api.Pat) api.Pat { return api.Pat{Kind: api.XRepeat, Min: 1, Max: 1, Sub: []api.Pat{p}} },
		"row":    func(p api.Pat) api.Pat { return api.Pat{Kind: api.XSeq, Sub: []api.Pat{{Kind: api.XEmpty}, p}} },
		"choice": func(p api.Pat) api.Pat { return api.Pat{Kind: api.XAlt, Sub: []api.Pat{p, {Kind: api.XEmpty}}} },
	} {
		if _, found, steps, code := matcher.At(nested(999, a, wrap), "a", 0, api.Rules{}, api.MaxAsk); !found || steps < 1000 || code != api.OK {
			t.Error(name, found, steps, code)
		}
		if _, found, steps, code := matcher.At(nested(1000, a, wrap), "a", 0, api.Rules{}, api.MaxAsk); found || steps != 0 || code != api.ErrPat {
			t.Error("too many levels of", name, found, steps, code)
		}
	}
	wide := api.Pat{Kind: api.XSeq, Sub: slices.Repeat([]api.Pat{a}, 100000)}
	if hit, _, steps, code := matcher.At(wide, strings.Repeat("a", 100000), 0, api.Rules{}, api.MaxAsk); hit.At.To != 100000 || steps != 100001 || code != api.OK {
		t.Error("a wide row", hit.At, steps, code)
	}
	wide.Kind = api.XAlt
	if _, found, steps, code := matcher.At(wide, "b", 0, api.Rules{}, api.MaxAsk); found || steps != 200000 || code != api.ErrFuel {
		t.Error("a wide choice", found, steps, code)
	}
}

// TestManyRanges asks a set of many ranges often.
func TestManyRanges(t *testing.T) {
	set := api.Pat{Kind: api.XSet}
	for c := 0x20000; c < 0x10fff0; c += 4 {
		set.Ranges = append(set.Ranges, api.Range{From: c, To: c + 1})
	}
	for c, want := range map[int]bool{0x1ffff: false, 0x20000: true, 0x20001: true, 0x20002: false, 0x20003: false, 0x20004: true, 0x54321: true, 0x54322: false, 0x10ffec: true, 0x10ffed: true, 0x10ffee: false, 0x10ffff: false} {
		if _, found, _, _ := matcher.At(set, string(rune(c)), 0, api.Rules{}, 10); found != want {
			t.Errorf("%x is one of them: %v", c, found)
		}
	}
	now := time.Now()
	hits, _, code := matcher.All(set, strings.Repeat("\U00020001\U00020002", 90000), api.Rules{Global: true}, api.MaxAsk)
	if took := time.Since(now); len(hits) != 90000 || code != api.OK || took > 5*time.Second {
		t.Error(len(hits), code, took)
	}
}

// TestLongBacks holds long texts against each other often.
func TestLongBacks(t *testing.T) {
	p, _ := parsed(t, `(a)(\1\1)(\2\2)(\3\3)(\4\4)(\5\5)(\6\6)(\7\7)(\8\8)(\9\9)(\10\10)(\11\11)(\12\12)(\13\13)(\14\14)(\15\15)(\16\16)(?:(?=\17)a)*\z`, "")
	s := strings.Repeat("a", 300000)
	now := time.Now()
	_, found, steps, code := matcher.At(p, s, 0, api.Rules{Fold: true}, api.MaxAsk)
	if took := time.Since(now); found || steps != api.MaxAsk || code != api.ErrFuel || took > 20*time.Second {
		t.Error(found, steps, code, took)
	}
}

// TestAnswersAreNewMemory: the groups of one hit are not those of another one, nor those of another call.
func TestAnswersAreNewMemory(t *testing.T) {
	p, r := parsed(t, `(a)(b)?`, "gl")
	hits, _, _ := matcher.All(p, "abaab", r, 100)
	again, _, _ := matcher.All(p, "abaab", r, 100)
	for i := range hits {
		for j := range hits[i].Groups[:cap(hits[i].Groups)] {
			hits[i].Groups[:cap(hits[i].Groups)][j] = api.Span{From: 100*i + j}
		}
	}
	for i := range hits {
		for j, g := range hits[i].Groups {
			if g.From != 100*i+j {
				t.Error("hits share memory", hitsText(hits))
			}
		}
	}
	if hitsText(again) != "0:2 0:1 1:2, 2:3 2:3 -, 3:5 3:4 4:5" {
		t.Error(hitsText(again))
	}
}

// TestAnyFuel: with too little of it there is nothing, and with more the answer is the same.
func TestAnyFuel(t *testing.T) {
	r := rand.New(rand.NewSource(105))
	for range 1500 {
		m := &maker{r: r, points: "ab"}
		p := m.tree(1 + r.Intn(3))
		s, rules := someText(r, 6, "aab"), someRules(r)
		hits, steps, code := matcher.All(p, s, rules, 3000)
		if code != api.OK {
			continue
		}
		for _, fuel := range []int{1, steps / 2, steps - 1, steps, steps + 1, 2 * steps, 3000, api.MaxAsk} {
			got, n, code := matcher.All(p, s, rules, max(fuel, 1))
			if fuel >= steps && (!slices.EqualFunc(got, hits, sameHit) || n != steps || code != api.OK) {
				t.Fatalf("All(%s, %q, %+v, %d) = %s, %d, %d, want %s, %d", shown(p), s, rules, fuel, hitsText(got), n, code, hitsText(hits), steps)
			}
			if fuel >= 1 && fuel < steps && (len(got) != 0 || n != fuel || code != api.ErrFuel) {
				t.Fatalf("All(%s, %q, %+v, %d) = %s, %d, %d, of %d steps", shown(p), s, rules, fuel, hitsText(got), n, code, steps)
			}
		}
	}
}
