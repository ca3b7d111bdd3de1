package stream_test

import (
	"math/rand"
	"strings"
	"testing"
	"time"

	"colander/api"
	"colander/stream"
	"colander/value"
)

// P6.1

func TestEventsByHand(t *testing.T) {
	for text, want := range map[string]string{
		`null`:                          `[[],null]`,
		`false`:                         `[[],false]`,
		`3`:                             `[[],3]`,
		`-0`:                            `[[],-0]`,
		`"a"`:                           `[[],"a"]`,
		`""`:                            `[[],""]`,
		`[]`:                            `[[],[]]`,
		`{}`:                            `[[],{}]`,
		`[1]`:                           `[[0],1] [[0]]`,
		`[1,2]`:                         `[[0],1] [[1],2] [[1]]`,
		`[1,[2]]`:                       `[[0],1] [[1,0],2] [[1,0]] [[1]]`,
		`[[1],2]`:                       `[[0,0],1] [[0,0]] [[1],2] [[1]]`,
		`[[]]`:                          `[[0],[]] [[0]]`,
		`[[[]]]`:                        `[[0,0],[]] [[0,0]] [[0]]`,
		`[{},[]]`:                       `[[0],{}] [[1],[]] [[1]]`,
		`{"a":1}`:                       `[["a"],1] [["a"]]`,
		`{"":null}`:                     `[[""],null] [[""]]`,
		`{"b":1,"a":2}`:                 `[["b"],1] [["a"],2] [["a"]]`,
		`{"a":[],"b":{"c":null}}`:       `[["a"],[]] [["b","c"],null] [["b","c"]] [["b"]]`,
		`{"b":{"c":null},"a":[]}`:       `[["b","c"],null] [["b","c"]] [["a"],[]] [["a"]]`,
		`[{"a":1},{"a":2}]`:             `[[0,"a"],1] [[0,"a"]] [[1,"a"],2] [[1,"a"]] [[1]]`,
		`{"0":[5,6]}`:                   `[["0",0],5] [["0",1],6] [["0",1]] [["0"]]`,
		`[0,1,2,3,4,5,6,7,8,9,10,"11"]`: `[[0],0] [[1],1] [[2],2] [[3],3] [[4],4] [[5],5] [[6],6] [[7],7] [[8],8] [[9],9] [[10],10] [[11],"11"] [[11]]`,
		`{"\u001e":{"é":"\u0000"}}`:     `[["\u001e","é"],"\u0000"] [["\u001e","é"]] [["\u001e"]]`,
	} {
		if got := stream.Events(val(text)); !sameRow(got, vals(want)) {
			t.Errorf("Events(%s) = %s, want %s", text, shown(got...), want)
		}
	}
	if got := stream.Events(nan); len(got) != 1 || !same(got[0], leafAt(nil, nan)) {
		t.Errorf("Events of NaN: %s", shown(got...))
	}
	if got := stream.Events(arr(inf, minus)); !sameRow(got, []api.Value{leafAt(pathOf(0), inf), leafAt(pathOf(1), minus), endAt(pathOf(1))}) {
		t.Errorf("Events of odd numbers: %s", shown(got...))
	}
}

func checkEvents(t *testing.T, v api.Value) {
	t.Helper()
	if got, want := stream.Events(v), treeOf(v).events(); !sameRow(got, want) {
		t.Fatalf("Events(%s) = %s, want %s", shown(v), shown(got...), shown(want...))
	}
}

func TestEventsAsTheModel(t *testing.T) {
	for _, v := range samples() {
		checkEvents(t, v)
		checkEvents(t, arr(v, v))
		checkEvents(t, obj("a b", v, arr(v)))
	}
	r := rand.New(rand.NewSource(61))
	for range 10000 {
		checkEvents(t, somewhat(r, 5))
	}
}

// TestEventsOfDeepValues looks at each path's length and its last part; values of all levels would have too many paths for a test.
func TestEventsOfDeepValues(t *testing.T) {
	const levels = 1500
	for _, pattern := range []string{"a", "o", "ao"} {
		l := stream.Events(nested(yes, levels, pattern))
		if len(l) != levels+1 || !same(l[0].List[1], yes) {
			t.Fatal(pattern, len(l))
		}
		for i, e := range l {
			if n := levels + 1 - max(i, 1); len(e.List[0].List) != n || i > 0 && len(e.List) != 1 {
				t.Fatalf("%s: the path of event %d has %d parts, want %d", pattern, i, len(e.List[0].List), n)
			}
			for j, p := range e.List[0].List {
				// The innermost part was put in first.
				want := num(0)
				if pattern[(levels-1-j)%len(pattern)] == 'o' {
					want = str("k")
				}
				if !same(p, want) {
					t.Fatalf("%s: part %d of the path of event %d is %s", pattern, j, i, shown(p))
				}
			}
		}
	}
}

func TestEventsAreQuick(t *testing.T) {
	wide := arr()
	keys := obj("")
	for i := range 400000 {
		wide.List = append(wide.List, num(float64(i)))
		keys.List = append(keys.List, arr(yes))
		keys.Keys = append(keys.Keys, value.Text(num(float64(i))))
	}
	start := time.Now()
	if l := stream.Events(wide); len(l) != 400001 {
		t.Error(len(l))
	}
	if l := stream.Events(keys); len(l) != 800001 {
		t.Error(len(l))
	}
	if d := time.Since(start); d > 20*time.Second {
		t.Error("slow:", d)
	}
}

func TestEventsAreNew(t *testing.T) {
	for _, v := range samples() {
		given := apart(arr(v, obj("key other", str("a text"), v), v))
		want := apart(given)
		l := stream.Events(given)
		if shares(l, []api.Value{given}) {
			t.Fatalf("events of %s stand in its memory", shown(v))
		}
		kept := apartRow(l)
		for i := range l {
			spoil(l[i])
			for j := range l {
				if j > i && !same(l[j], kept[j]) {
					t.Fatalf("events %d and %d of %s share a list", i, j, shown(want))
				}
			}
		}
		if !same(given, want) || !sameRow(stream.Events(given), kept) {
			t.Fatalf("events of %s are its own lists", shown(want))
		}
	}
}

// TestLeavesWithRoom: an empty list that has room behind its end is not handed on.
func TestLeavesWithRoom(t *testing.T) {
	room := make([]api.Value, 3)
	empty := api.Value{Kind: api.Array, List: room[:0], Keys: make([]string, 0, 3)}
	check := func(l []api.Value) {
		t.Helper()
		for _, v := range l {
			spoil(v)
			spoilRow(v.List)
		}
		if !sameRow(room, []api.Value{null, null, null}) {
			t.Error("the room was handed on")
		}
	}
	check(stream.Events(empty))
	check(stream.Events(arr(empty)))
	event := arr(arr(str("a")), empty)
	cut, _ := stream.Cut(0, event)
	check([]api.Value{cut})
	back, _ := stream.Back([]api.Value{arr(arr(), empty)})
	check(back)
}

// P6.5

func TestTextsByHand(t *testing.T) {
	for s, want := range map[string][]string{
		"":                          nil,
		" ":                         nil,
		"\t\n\r ":                   nil,
		"\x1e":                      nil,
		"\x1e\x1e \x1e":             nil,
		"a":                         {"a"},
		" a ":                       {" a "},
		"\x1e1\n\x1e \x1e2":         {"1\n", "2"},
		"1\x1e2\x1e3":               {"1", "2", "3"},
		"1\x1e":                     {"1"},
		"\x1e1":                     {"1"},
		"\x1e\x1e1\x1e\x1e1\x1e":    {"1", "1"},
		"\n[1,\n2] \x1e \r\x1e\t{}": {"\n[1,\n2] ", "\t{}"},
		"\x00\x1e\x1f\x1e\x1d":      {"\x00", "\x1f", "\x1d"},
		"\v\x1e\f\x1e\b":            {"\v", "\f", "\b"},
		"\u00a0\x1e\u2028\x1e\ufeff": {"\u00a0", "\u2028",
			"\ufeff"},
		"\xff\x1e\xe2\x82\x1e\x9e": {"\xff", "\xe2\x82", "\x9e"},
		"\"a\x1eb\"":               {`"a`, `b"`},
		`"\u001e"`:                 {`"\u001e"`},
		"\u011e\u1e1e":             {"\u011e\u1e1e"},
	} {
		if got := stream.Texts(s); strings.Join(got, "\x1e") != strings.Join(want, "\x1e") || len(got) != len(want) {
			t.Errorf("Texts(%q) = %q, want %q", s, got, want)
		}
	}
}

// textsOf is P6.5's Texts, byte by byte.
func textsOf(s string) []string {
	var out []string
	piece, blank := "", true
	for i := 0; i <= len(s); i++ {
		if i == len(s) || s[i] == 30 {
			if !blank {
				out = append(out, piece)
			}
			piece, blank = "", true
			continue
		}
		piece += s[i : i+1]
		blank = blank && (s[i] == 9 || s[i] == 10 || s[i] == 13 || s[i] == 32)
	}
	return out
}

func TestTextsAsTheModel(t *testing.T) {
	r := rand.New(rand.NewSource(62))
	for range 30000 {
		b := make([]byte, r.Intn(12))
		for i := range b {
			b[i] = []byte{30, 30, 9, 10, 13, 32, 32, 11, 12, 0, 31, 29, 'a', 255, byte(r.Intn(256))}[r.Intn(15)]
		}
		s := string(b)
		got, want := stream.Texts(s), textsOf(s)
		if len(got) != len(want) || strings.Join(got, "\x1e") != strings.Join(want, "\x1e") {
			t.Fatalf("Texts(%q) = %q, want %q", s, got, want)
		}
		for _, piece := range got {
			if within(piece, s) {
				t.Fatalf("%q stands in the text's own memory", piece)
			}
		}
	}
}

func TestTextsOfGreatTexts(t *testing.T) {
	n := api.MaxText * 2
	if got := stream.Texts(strings.Repeat("a\x1e", n)); len(got) != n {
		t.Error(len(got))
	}
	if got := stream.Texts(strings.Repeat(" \x1e", n)); len(got) != 0 {
		t.Error(len(got))
	}
	if got := stream.Texts(strings.Repeat("a", n)); len(got) != 1 || len(got[0]) != n {
		t.Error(len(got))
	}
}
