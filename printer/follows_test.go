package printer_test

import (
	"bytes"
	"encoding/json"
	"math"
	"math/rand"
	"strings"
	"testing"

	"colander/api"
	"colander/printer"
	"colander/reader"
	"colander/value"
)

// P5.3, W3

func isFinite(v api.Value) bool {
	for _, x := range v.List {
		if !isFinite(x) {
			return false
		}
	}
	return !math.IsNaN(v.Num) && !math.IsInf(v.Num, 0)
}

func finiteValues(seed int64, n int) []api.Value {
	var out []api.Value
	for _, v := range samples() {
		if isFinite(v) {
			out = append(out, v)
		}
	}
	r := rand.New(rand.NewSource(seed))
	for range n {
		out = append(out, somewhat(r, 5))
	}
	return out
}

// checkBack holds that what is printed is read as what was printed, and printed once more as it was.
func checkBack(t *testing.T, v api.Value, s api.Style) {
	t.Helper()
	text := printed(t, v, s)
	back, f := reader.Single(text)
	want := v
	if s.Sort {
		want = sortedOf(v)
	}
	if f != (api.Fault{}) || !same(back, want) {
		t.Fatalf("Print in %+v = %s, which is read as %s, %v", s, cut(text), cut(value.Text(back)), f)
	}
	if again := printed(t, back, s); again != text {
		t.Fatalf("Print in %+v = %s, once more %s", s, cut(text), cut(again))
	}
}

func TestWhatIsPrintedIsRead(t *testing.T) {
	for _, v := range finiteValues(54, 3000) {
		for _, s := range styles() {
			if !s.Colour {
				checkBack(t, v, s)
			}
		}
	}
}

func TestGreatTextsAreRead(t *testing.T) {
	deep := nested(num(1), api.MaxDepth-1, true, true)
	wide := many(num(-2.5), api.MaxNodes-1)
	keys := obj("")
	for i := range 40000 {
		keys.Keys = append(keys.Keys, string(rune(52000-i/2-i%2*30000)))
		keys.List = append(keys.List, null)
	}
	checkBack(t, deep, api.Style{Sort: true, Ascii: true})
	checkBack(t, nested(obj("b a", no, yes), 500, true, true), api.Style{Indent: 2})
	for _, s := range []api.Style{{}, {Indent: 4}, {Tab: true}, {Sort: true}, {Ascii: true, Indent: 1, Sort: true}} {
		checkBack(t, wide, s)
		checkBack(t, str(strings.Repeat("é", 1<<17)), s)
		checkBack(t, keys, s)
	}
}

func TestAsciiIsAsciiAlone(t *testing.T) {
	for _, v := range append(finiteValues(55, 3000), samples()...) {
		for _, s := range []api.Style{{Ascii: true}, {Ascii: true, Indent: 2}, {Ascii: true, Tab: true, Sort: true, Colour: true}} {
			text := printed(t, v, s)
			if at := strings.IndexFunc(text, func(r rune) bool { return r > 126 }); at >= 0 {
				t.Fatalf("Print in %+v = %s: byte %d", s, cut(text), at)
			}
		}
	}
}

// bare answers a text without the blanks and line ends between its tokens.
func bare(text string) string {
	out, inString := "", false
	for i := 0; i < len(text); i++ {
		c := text[i]
		switch {
		case inString && c == '\\':
			out += text[i : i+2]
			i++
			continue
		case c == '"':
			inString = !inString
		case !inString && strings.IndexByte(" \n\t", c) >= 0:
			continue
		}
		out += string(text[i : i+1])
	}
	return out
}

func TestStylesDifferByBlanksAlone(t *testing.T) {
	for _, v := range append(finiteValues(56, 2000), samples()...) {
		for _, s := range styles() {
			thin := s
			thin.Indent, thin.Tab = 0, false
			if got, want := printed(t, v, s), printed(t, v, thin); !s.Colour && bare(got) != want {
				t.Fatalf("Print in %+v = %s, without blanks %s, want %s", s, cut(got), cut(bare(got)), cut(want))
			}
		}
		if got, want := printed(t, v, api.Style{}), value.Text(v); got != want {
			t.Fatalf("Print = %s, Text = %s", cut(got), cut(want))
		}
	}
}

// TestAsTheLibraryIndents holds it against Go's own.
func TestAsTheLibraryIndents(t *testing.T) {
	for _, v := range append(finiteValues(57, 2000), samples()...) {
		for _, s := range []api.Style{{Indent: 1}, {Indent: 2}, {Indent: 7}, {Tab: true}, {Tab: true, Indent: 3}} {
			step := strings.Repeat(" ", s.Indent)
			if s.Tab {
				step = "\t"
			}
			var want bytes.Buffer
			if err := json.Indent(&want, []byte(value.Text(v)), "", step); err != nil {
				t.Fatal(err)
			}
			if got := printed(t, v, s); got != want.String() {
				t.Fatalf("Print in %+v = %s, want %s", s, cut(got), cut(want.String()))
			}
		}
	}
}

// The rules: a call is the same each time, many at a time, too.

func TestCallsKnowNothingOfOneAnother(t *testing.T) {
	all := samples()
	done := make(chan string)
	for _, v := range all {
		go func() {
			out := ""
			for _, s := range styles() {
				text, _ := printer.Print(v, s)
				out += text + printer.Escape(text, s.Ascii) + printer.Colour(v)
			}
			done <- out
		}()
	}
	got := map[string]int{}
	for range all {
		got[<-done]++
	}
	for _, v := range all {
		want := ""
		for _, s := range styles() {
			text := printed(t, v, s)
			want += text + printer.Escape(text, s.Ascii) + printer.Colour(v)
		}
		got[want]--
	}
	for _, n := range got {
		if n != 0 {
			t.Fatal("calls at the same time answer otherwise than one by one")
		}
	}
}
