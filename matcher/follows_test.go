package matcher_test

import (
	"math/rand"
	"testing"

	"colander/api"
	"colander/matcher"
	"colander/runes"
)

// P10.5

// rowOf is a pattern of a text's code points, one behind the other.
func rowOf(part string) api.Pat {
	p := api.Pat{Kind: api.XSeq}
	for _, c := range part {
		p.Sub = append(p.Sub, api.Pat{Kind: api.XChar, N: int(c)})
	}
	if len(p.Sub) == 1 {
		return p.Sub[0]
	}
	return p
}

func TestCodePointsAreFoundAsFindDoes(t *testing.T) {
	r := rand.New(rand.NewSource(107))
	found := 0
	for range 30000 {
		s := someText(r, 12, "aabé😀")
		part := someText(r, 3, "aabé😀")
		if part == "" {
			continue
		}
		hit, ok, _, code := matcher.At(rowOf(part), s, 0, api.Rules{}, api.MaxAsk)
		want := runes.Find(s, part)
		if code != api.OK || ok != (len(want) > 0) || ok && (hit.At.From != want[0] || hit.At.To != want[0]+runes.Count(part)) {
			t.Fatalf("%q in %q: %s, %v, %d; Find: %v", part, s, hitText(hit), ok, code, want)
		}
		if ok {
			found++
		}
	}
	if found < 5000 {
		t.Errorf("no more than %d hits", found)
	}
}

// isWithin tells whether a span is none, or lies within so many code points.
func isWithin(s api.Span, count int) bool {
	return s == (api.Span{From: -1, To: -1}) || s.From >= 0 && s.From <= s.To && s.To <= count
}

func TestHitsRiseWithinTheText(t *testing.T) {
	r := rand.New(rand.NewSource(108))
	for range 60000 {
		m := &maker{r: r, points: "abé\n"}
		p := m.tree(1 + r.Intn(4))
		s, rules := someText(r, 10, "aabé\n"), someRules(r)
		rules.Global = true
		hits, _, _ := matcher.All(p, s, rules, 10000)
		count, last := runes.Count(s), api.Span{From: -1, To: 0}
		for _, h := range hits {
			rises := h.At.From > last.From && h.At.From >= last.To
			if !rises || h.At.From < 0 || !isWithin(h.At, count) || rules.Full && h.At.From == h.At.To {
				t.Fatalf("All(%s, %q, %+v) = %s", shown(p), s, rules, hitsText(hits))
			}
			for _, g := range h.Groups {
				if !isWithin(g, count) || len(h.Groups) != len(m.names) {
					t.Fatalf("All(%s, %q, %+v) = %s", shown(p), s, rules, hitsText(hits))
				}
			}
			last = h.At
		}
	}
}

// TestCallsKnowNothingOfOneAnother asks the same again behind another search.
func TestCallsKnowNothingOfOneAnother(t *testing.T) {
	p, rules := parsed(t, `(?:(a)|(b))+`, "g")
	other, _ := parsed(t, `(b)*(?=(a))`, "")
	want, wantSteps, _ := matcher.All(p, "abcba", rules, 1000)
	for fuel := 1; fuel < 60; fuel++ {
		matcher.All(other, "bbbab", rules, fuel)
		got, steps, code := matcher.All(p, "abcba", rules, 1000)
		if hitsText(got) != hitsText(want) || steps != wantSteps || code != api.OK {
			t.Error(fuel, hitsText(got), steps, code)
		}
	}
}
