package matcher_test

import (
	"math"
	"math/rand"
	"testing"
	"unsafe"

	"colander/api"
	"colander/matcher"
	"colander/regex"
	"colander/runes"
	"colander/sample"
	"colander/value"
)

// P10.4

func TestValueByHand(t *testing.T) {
	for _, x := range []struct {
		pattern, flags, text string
		want                 []string
	}{
		{`(a)|b`, "g", "xab", []string{
			`{"offset":1,"length":1,"string":"a","captures":[{"offset":1,"length":1,"string":"a","name":null}]}`,
			`{"offset":2,"length":1,"string":"b","captures":[{"offset":-1,"length":0,"string":null,"name":null}]}`}},
		{`b`, "", "éb", []string{`{"offset":1,"length":1,"string":"b","captures":[]}`}},
		{``, "", "", []string{`{"offset":0,"length":0,"string":"","captures":[]}`}},
		{``, "g", "a", []string{`{"offset":0,"length":0,"string":"","captures":[]}`, `{"offset":1,"length":0,"string":"","captures":[]}`}},
		{`(?<x>é+)(?<Name_2>😀)?(b)`, "", "aéébé", []string{`{"offset":1,"length":3,"string":"ééb","captures":[{"offset":1,"length":2,"string":"éé","name":"x"},{"offset":-1,"length":0,"string":null,"name":"Name_2"},{"offset":3,"length":1,"string":"b","name":null}]}`}},
		{`(?<y>)(a)`, "", "ba", []string{`{"offset":1,"length":1,"string":"a","captures":[{"offset":1,"length":0,"string":"","name":"y"},{"offset":1,"length":1,"string":"a","name":null}]}`}},
		{`(?<=(é))b(?=(c))`, "", "aébc", []string{`{"offset":2,"length":1,"string":"b","captures":[{"offset":1,"length":1,"string":"é","name":null},{"offset":3,"length":1,"string":"c","name":null}]}`}},
		{`((a)|(b)){2}`, "", "ab", []string{`{"offset":0,"length":2,"string":"ab","captures":[{"offset":1,"length":1,"string":"b","name":null},{"offset":0,"length":1,"string":"a","name":null},{"offset":1,"length":1,"string":"b","name":null}]}`}},
		{`A`, "i", "a", []string{`{"offset":0,"length":1,"string":"a","captures":[]}`}},
	} {
		p, r := parsed(t, x.pattern, x.flags)
		hits, _, _ := matcher.All(p, x.text, r, 1000)
		if len(hits) != len(x.want) {
			t.Fatal(x.pattern, hitsText(hits))
		}
		for i, h := range hits {
			if got := matcher.Value(p, x.text, h); !sample.Same(got, sample.One(x.want[i])) || !value.Right(got) {
				t.Errorf("Value(%s, %q, %s) = %s, want %s", x.pattern, x.text, hitText(h), value.Text(got), x.want[i])
			}
		}
	}
}

// partOf is the object that tells of a part of s.
func partOf(s string, span api.Span, key string, more api.Value) api.Value {
	if span.From == -1 {
		return sample.Obj("offset length string "+key, sample.Num(-1), sample.Num(0), api.Value{}, more)
	}
	text := string([]rune(s)[span.From:span.To])
	return sample.Obj("offset length string "+key, sample.Num(float64(span.From)), sample.Num(float64(span.To-span.From)), sample.Str(text), more)
}

func TestAnyValues(t *testing.T) {
	text := func(s string) any { return unsafe.StringData(s) }
	r := rand.New(rand.NewSource(106))
	for range 20000 {
		m := &maker{r: r, points: "aé😀"}
		p := m.tree(1 + r.Intn(4))
		s := someText(r, 8, "aé😀b")
		hits, _, _ := matcher.All(p, s, someRules(r), 1000)
		for _, h := range hits {
			captures := sample.Arr()
			for i, g := range h.Groups {
				name := api.Value{}
				if m.names[i] != "" {
					name = sample.Str(m.names[i])
				}
				captures.List = append(captures.List, partOf(s, g, "name", name))
			}
			before := hitText(h)
			got := matcher.Value(p, s, h)
			if want := partOf(s, h.At, "captures", captures); !sample.Same(got, want) || !value.Right(got) {
				t.Fatalf("Value(%s, %q, %s) = %s, want %s", shown(p), s, hitText(h), value.Text(got), value.Text(want))
			}
			args := []api.Value{sample.Str(s)}
			for _, name := range m.names {
				args = append(args, sample.Str(name))
			}
			if wrong := sample.Shared([]api.Value{got}, args, text); wrong != "" || hitText(h) != before {
				t.Fatalf("Value(%s, %q, %s): %s", shown(p), s, before, wrong)
			}
		}
	}
}

// TestValueEnds: of hits that are none nothing is promised but that the call ends, and does not panic.
func TestValueEnds(t *testing.T) {
	p, _ := parsed(t, `(a)(?<x>b)`, "")
	for _, p := range []api.Pat{p, {}, {Kind: api.XGroup, N: 5}} {
		for _, from := range []int{math.MinInt, -2, -1, 0, 1, 3, 100, math.MaxInt} {
			for _, to := range []int{math.MinInt, -2, -1, 0, 1, 3, 100, math.MaxInt} {
				span := api.Span{From: from, To: to}
				for n := range 5 {
					h := api.Hit{At: span}
					for range n {
						h.Groups = append(h.Groups, span)
					}
					matcher.Value(p, "aé\xff", h)
				}
			}
		}
	}
}

// TestValueOfManyGroups: each group is told, whichever hit there is.
func TestValueOfManyGroups(t *testing.T) {
	row := api.Pat{Kind: api.XSeq}
	for i := range 100 {
		row.Sub = append(row.Sub, api.Pat{Kind: api.XGroup, N: i + 1, Sub: []api.Pat{{Kind: api.XRepeat, Max: 1, Sub: []api.Pat{{Kind: api.XChar, N: 'a'}}}}})
	}
	count, _ := regex.Groups(row)
	hit, found, _, code := matcher.At(row, "aaa", 0, api.Rules{}, 1000)
	captures, _ := value.Get(matcher.Value(row, "aaa", hit), "captures")
	if count != 100 || !found || code != api.OK || len(hit.Groups) != 100 || len(captures.List) != 100 || runes.Count(value.Text(captures.List[2])) == 0 {
		t.Error(count, found, code, len(hit.Groups), len(captures.List))
	}
	for i, c := range captures.List {
		want := partOf("aaa", api.Span{From: min(i, 3), To: min(i+1, 3)}, "name", api.Value{})
		if !sample.Same(c, want) {
			t.Errorf("group %d: %s, want %s", i+1, value.Text(c), value.Text(want))
		}
	}
}
