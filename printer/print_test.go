package printer_test

import (
	"math"
	"math/rand"
	"strings"
	"testing"

	"colander/api"
	"colander/printer"
)

// P5.1

func TestPrintByHand(t *testing.T) {
	v := arr(num(1), obj("b a", arr(), obj("_", str("é\x01\U0001f600"))), arr(arr(null, nan), obj("")))
	for _, x := range []struct {
		v    api.Value
		s    api.Style
		want string
	}{
		{arr(num(1), obj("a", arr())), api.Style{Indent: 2}, "[\n  1,\n  {\n    \"a\": []\n  }\n]"},
		{null, api.Style{Colour: true}, "\x1b[1;30mnull\x1b[0m"},
		{v, api.Style{}, `[1,{"b":[],"a":{"":"é\u0001` + "\U0001f600" + `"}},[[null,null],{}]]`},
		{v, api.Style{Sort: true}, `[1,{"a":{"":"é\u0001` + "\U0001f600" + `"},"b":[]},[[null,null],{}]]`},
		{v, api.Style{Ascii: true}, `[1,{"b":[],"a":{"":"\u00e9\u0001\ud83d\ude00"}},[[null,null],{}]]`},
		{v, api.Style{Indent: 1}, "[\n 1,\n {\n  \"b\": [],\n  \"a\": {\n   \"\": \"é\\u0001\U0001f600\"\n  }\n },\n [\n  [\n   null,\n   null\n  ],\n  {}\n ]\n]"},
		{v, api.Style{Tab: true, Ascii: true, Sort: true}, "[\n\t1,\n\t{\n\t\t\"a\": {\n\t\t\t\"\": \"\\u00e9\\u0001\\ud83d\\ude00\"\n\t\t},\n\t\t\"b\": []\n\t},\n\t[\n\t\t[\n\t\t\tnull,\n\t\t\tnull\n\t\t],\n\t\t{}\n\t]\n]"},
		{arr(yes), api.Style{Tab: true, Indent: 7}, "[\n\ttrue\n]"},
		{arr(yes), api.Style{Indent: 7}, "[\n       true\n]"},
		{obj("k", arr(no)), api.Style{Indent: 7}, "{\n       \"k\": [\n              false\n       ]\n}"},
		{obj("", []api.Value{}...), api.Style{Indent: 3}, "{}"}, {arr(), api.Style{Tab: true}, "[]"}, {str("a"), api.Style{Indent: 5}, `"a"`},
		{obj("é", str("é")), api.Style{Ascii: true}, `{"\u00e9":"\u00e9"}`}, {obj("\x7f", str("\x7f~")), api.Style{}, `{"\u007f":"\u007f~"}`},
		{obj("b é B a aa _", num(1), num(2), num(3), num(4), num(5), num(6)), api.Style{Sort: true}, `{"":6,"B":3,"a":4,"aa":5,"b":1,"é":2}`},
		{obj("\U00010000 \uffff", num(1), num(2)), api.Style{Sort: true, Ascii: true}, `{"\uffff":2,"\ud800\udc00":1}`},
		{num(0.1), api.Style{}, "0.1"}, {minus, api.Style{}, "-0"}, {inf, api.Style{}, "1.7976931348623157e+308"}, {num(1e17), api.Style{Indent: 2}, "1e+17"}, {num(100), api.Style{}, "100"},
	} {
		got, e := printer.Print(x.v, x.s)
		if got != x.want || e != api.OK {
			t.Errorf("Print in %+v = %q, %d, want %q", x.s, got, e, x.want)
		}
	}
}

// TestColoursByHand writes < for ESC [, so that one sees what is asked for.
func TestColoursByHand(t *testing.T) {
	for _, x := range []struct {
		v    api.Value
		s    api.Style
		want string
	}{
		{null, api.Style{}, "<1;30mnull<0m"}, {no, api.Style{}, "<0;39mfalse<0m"}, {yes, api.Style{}, "<0;39mtrue<0m"}, {num(-2), api.Style{}, "<0;39m-2<0m"}, {nan, api.Style{}, "<0;39mnull<0m"}, {str("é"), api.Style{}, `<0;32m"é"<0m`}, {str("é"), api.Style{Ascii: true}, `<0;32m"\u00e9"<0m`},
		{arr(), api.Style{}, "<1;39m[<0m<1;39m]<0m"}, {obj(""), api.Style{Indent: 2}, "<1;39m{<0m<1;39m}<0m"},
		{arr(null, num(1)), api.Style{}, "<1;39m[<0m<1;30mnull<0m<1;39m,<0m<0;39m1<0m<1;39m]<0m"},
		{arr(null, num(1)), api.Style{Indent: 2}, "<1;39m[<0m\n  <1;30mnull<0m<1;39m,<0m\n  <0;39m1<0m\n<1;39m]<0m"},
		{obj("b a", str("x"), obj("")), api.Style{}, `<1;39m{<0m<34;1m"b"<0m<1;39m:<0m<0;32m"x"<0m<1;39m,<0m<34;1m"a"<0m<1;39m:<0m<1;39m{<0m<1;39m}<0m<1;39m}<0m`},
		{obj("b a", str("x"), arr(yes)), api.Style{Tab: true, Sort: true}, "<1;39m{<0m\n\t<34;1m\"a\"<0m<1;39m:<0m <1;39m[<0m\n\t\t<0;39mtrue<0m\n\t<1;39m]<0m<1;39m,<0m\n\t<34;1m\"b\"<0m<1;39m:<0m <0;32m\"x\"<0m\n<1;39m}<0m"},
	} {
		x.s.Colour = true
		got, e := printer.Print(x.v, x.s)
		if want := strings.ReplaceAll(x.want, "<", "\x1b["); got != want || e != api.OK {
			t.Errorf("Print in %+v = %q, %d, want %q", x.s, got, e, want)
		}
	}
}

func TestPrintInEachStyle(t *testing.T) {
	all := samples()
	r := rand.New(rand.NewSource(51))
	for range 3000 {
		all = append(all, somewhat(r, 5))
	}
	for _, v := range all {
		old := apart(v)
		for _, s := range styles() {
			checkPrint(t, v, s)
		}
		if !same(v, old) {
			t.Fatalf("Print changed %s", printed(t, old, api.Style{}))
		}
	}
}

// TestIndentsThatMayNotBe has all else besides, as it makes no difference, and values that are too much, as this is told first.
func TestIndentsThatMayNotBe(t *testing.T) {
	huge := many(str(strings.Repeat("a", 1<<20)), 17)
	for _, indent := range []int{-1, 8, 9, 15, 16, -8, 256, 1 << 32, math.MaxInt, math.MinInt} {
		for _, s := range styles() {
			s.Indent = indent
			for _, v := range []api.Value{null, arr(), obj("a", num(1)), huge} {
				if got, e := printer.Print(v, s); got != "" || e != api.ErrArg {
					t.Fatalf("Print in %+v = %s, %d", s, cut(got), e)
				}
			}
		}
	}
}

// TestMaxPrint has values whose text is as long as may be, and those that have more: by one byte, and by as many as there are behind the last string, so that what comes behind it would find room again.
func TestMaxPrint(t *testing.T) {
	shapes := []func(long string) api.Value{
		str,
		func(long string) api.Value { return arr(null, str(long), arr()) },
		func(long string) api.Value {
			return obj("b a"+long+" c", num(1), arr(num(2), obj(""), yes), str("é\n"))
		},
	}
	for _, shape := range shapes {
		for _, s := range []api.Style{{}, {Indent: 3}, {Tab: true, Colour: true, Sort: true}} {
			t.Run("", func(t *testing.T) {
				t.Parallel()
				checkMaxPrint(t, shape, s)
			})
		}
	}
}

func checkMaxPrint(t *testing.T, shape func(string) api.Value, s api.Style) {
	short, _ := printOf(shape(""), s)
	behind := len(short) - strings.LastIndex(short, `"`)
	for _, more := range []int{0, 1, 2, behind - 1, behind, len(short)} {
		got, e := printer.Print(shape(strings.Repeat("x", api.MaxPrint-len(short)+more)), s)
		isGood := e == api.ErrMany && got == ""
		if more == 0 {
			isGood = e == api.OK && len(got) == api.MaxPrint
		}
		if !isGood {
			t.Errorf("%s with a long string, in %+v, %d bytes too many: %s, %d", short, s, more, cut(got), e)
		}
	}
}

func TestMaxPrintOfEscapes(t *testing.T) {
	for point, bytes := range map[string]int{"\x00": 6, "é": 6, "\U0001f600": 12} {
		n := (api.MaxPrint - 2) / bytes
		left := strings.Repeat("a", api.MaxPrint-2-n*bytes)
		v := str(strings.Repeat(point, n) + left)
		if got, e := printer.Print(v, api.Style{Ascii: true}); e != api.OK || len(got) != api.MaxPrint {
			t.Errorf("%q: %s, %d", point, cut(got), e)
		}
		v.Str += "a"
		if got, e := printer.Print(v, api.Style{Ascii: true}); e != api.ErrMany || got != "" {
			t.Errorf("%q: %s, %d", point, cut(got), e)
		}
	}
}

// TestMaxPrintOfManyValues has short tokens alone.
func TestMaxPrintOfManyValues(t *testing.T) {
	v := many(many(num(1), 2046), 4098)
	v.List = append(v.List, num(10))
	if got, e := printer.Print(v, api.Style{}); e != api.OK || len(got) != api.MaxPrint || !strings.HasSuffix(got, "1,1],10]") {
		t.Errorf("%s, %d", cut(got), e)
	}
	v.List[4098] = num(100)
	if got, e := printer.Print(v, api.Style{}); e != api.ErrMany || got != "" {
		t.Errorf("%s, %d", cut(got), e)
	}
}

// TestDeepValues has values of all levels that may be; their margins alone may be too many bytes.
func TestDeepValues(t *testing.T) {
	// Margins of n arrays within each other, with one value: twice 1 to n-1, and n, each so often as a level has bytes.
	fits := func(n, step int) bool {
		return 2*n+1+2*n+(n*(n-1)+n)*step <= api.MaxPrint
	}
	for _, step := range []int{1, 2, 7} {
		n := 1
		for n < api.MaxDepth && fits(n, step) {
			n++
		}
		for _, s := range []api.Style{{Indent: step}, {Indent: 7, Tab: true}} {
			if s.Tab && step > 1 {
				continue
			}
			checkPrint(t, nested(num(1), n-1, true, false), s)
			checkPrint(t, nested(num(1), n, true, false), s)
			if _, e := printer.Print(nested(num(1), n-1, true, false), s); e != api.OK {
				t.Errorf("%d levels in %+v: %d", n-1, s, e)
			}
			for _, deep := range []int{n, api.MaxDepth - 1} {
				if got, e := printer.Print(nested(num(1), deep, true, false), s); e != api.ErrMany || got != "" {
					t.Errorf("%d levels in %+v: %s, %d", deep, s, cut(got), e)
				}
			}
		}
	}
	want := strings.Repeat("[", api.MaxDepth-1) + "[]" + strings.Repeat("]", api.MaxDepth-1)
	if got := printed(t, nested(arr(), api.MaxDepth-1, true, false), api.Style{}); got != want {
		t.Errorf("Print = %s", cut(got))
	}
	want = strings.Repeat(`{"k":`, api.MaxDepth-1) + "null" + strings.Repeat("}", api.MaxDepth-1)
	if got := printed(t, nested(null, api.MaxDepth-1, false, true), api.Style{Sort: true, Ascii: true}); got != want {
		t.Errorf("Print = %s", cut(got))
	}
}

// TestWhatIsTooMuchIsToldSoon has values whose texts nobody could write.
func TestWhatIsTooMuchIsToldSoon(t *testing.T) {
	wide := null
	for range 30 {
		next := obj("")
		for i := range 100 {
			next.Keys = append(next.Keys, strings.Repeat("k", i))
			next.List = append(next.List, wide)
		}
		wide = next
	}
	long := many(str(strings.Repeat("é", 1<<19)), 1<<16)
	for _, s := range []api.Style{{}, {Indent: 7}, {Tab: true, Sort: true, Ascii: true, Colour: true}} {
		for name, v := range map[string]api.Value{"long": long, "wide": wide} {
			if got, e := printer.Print(v, s); got != "" || e != api.ErrMany {
				t.Errorf("%s in %+v: %s, %d", name, s, cut(got), e)
			}
		}
	}
}
