package reader_test

import (
	"math"
	"strings"
	"testing"

	"colander/api"
	"colander/reader"
	"colander/sample"
)

// P4.1

const mark = "\xef\xbb\xbf"

func TestAtByHand(t *testing.T) {
	for _, x := range []struct {
		s    string
		off  int
		want api.Spot
	}{
		{"", 0, api.Spot{Line: 1, Col: 1, Off: 0}},
		{"", 5, api.Spot{Line: 1, Col: 1, Off: 0}},
		{"", -5, api.Spot{Line: 1, Col: 1, Off: 0}},
		{"abc", 0, api.Spot{Line: 1, Col: 1, Off: 0}},
		{"abc", 1, api.Spot{Line: 1, Col: 2, Off: 1}},
		{"abc", 3, api.Spot{Line: 1, Col: 4, Off: 3}},
		{"abc", 4, api.Spot{Line: 1, Col: 4, Off: 3}},
		{"abc", math.MaxInt, api.Spot{Line: 1, Col: 4, Off: 3}},
		{"abc", -1, api.Spot{Line: 1, Col: 1, Off: 0}},
		{"abc", math.MinInt, api.Spot{Line: 1, Col: 1, Off: 0}},
		{"ab\ncd", 2, api.Spot{Line: 1, Col: 3, Off: 2}},
		{"ab\ncd", 3, api.Spot{Line: 2, Col: 1, Off: 3}},
		{"ab\ncd", 4, api.Spot{Line: 2, Col: 2, Off: 4}},
		{"ab\ncd", 9, api.Spot{Line: 2, Col: 3, Off: 5}},
		{"\n", 0, api.Spot{Line: 1, Col: 1, Off: 0}},
		{"\n", 1, api.Spot{Line: 2, Col: 1, Off: 1}},
		{"\n\n\na", 3, api.Spot{Line: 4, Col: 1, Off: 3}},
		{"\n\n\na", 4, api.Spot{Line: 4, Col: 2, Off: 4}},
		{"a\r\nb\rc", 2, api.Spot{Line: 1, Col: 3, Off: 2}},
		{"a\r\nb\rc", 3, api.Spot{Line: 2, Col: 1, Off: 3}},
		{"a\r\nb\rc", 5, api.Spot{Line: 2, Col: 3, Off: 5}},
		{"\u00e9\u20ac", 2, api.Spot{Line: 1, Col: 3, Off: 2}},
		{"\u00e9\u20ac", 3, api.Spot{Line: 1, Col: 4, Off: 3}},
		{mark + "a", 3, api.Spot{Line: 1, Col: 4, Off: 3}},
		{"\u2028\u0085\x0b\x0ca", 8, api.Spot{Line: 1, Col: 9, Off: 8}},
		{"\xff\n\xff", 3, api.Spot{Line: 2, Col: 2, Off: 3}},
	} {
		if got := reader.At(x.s, x.off); got != x.want {
			t.Errorf("At(%q, %d) = %v, want %v", x.s, x.off, got, x.want)
		}
	}
}

func TestAtOfShortTexts(t *testing.T) {
	sample.EachText([]string{"\n", "\r", "a", "\u00e9", "\xff"}, 5, func(s string) {
		for off := -2; off <= len(s)+2; off++ {
			if got, want := reader.At(s, off), sample.SpotOf(s, off); got != want {
				t.Fatalf("At(%q, %d) = %v, want %v", s, off, got, want)
			}
		}
	})
}

// TestAtOfLongTexts asks beyond MaxText, too: At knows no limit.
func TestAtOfLongTexts(t *testing.T) {
	s := strings.Repeat("abc\n", 600000)
	for _, off := range []int{0, 3, 4, 1048576, 1048577, 2399999, 2400000, 2400001} {
		if got, want := reader.At(s, off), sample.SpotOf(s, off); got != want {
			t.Errorf("At of byte %d = %v, want %v", off, got, want)
		}
	}
}

// betweenParts is a value's text with a place, where blanks may stand, between all of its parts.
const betweenParts = `_{_"a"_:_[_1_,_"b"_,_[_]_,_{_}_]_,_"c"_:_null_}_`

func TestBlanksBetweenParts(t *testing.T) {
	want := obj("a c", arr(num(1), str("b"), arr(), obj("")), null)
	for _, b := range []string{"", "\t", "\n", "\r", " ", "\r\n", " \t\n\r \n\n\t\t\r\r", strings.Repeat(" ", 1000)} {
		s := strings.ReplaceAll(betweenParts, "_", b)
		if got, f := reader.Single(s); f != (api.Fault{}) || !same(got, want) {
			t.Errorf("with %q: %s, %v", b, shown(got), f)
		}
		l, f := reader.All(s + b + "7" + b)
		if f != (api.Fault{}) || !sameRow(l, []api.Value{want, num(7)}) {
			t.Errorf("with %q, and another one: %s, %v", b, shown(l...), f)
		}
	}
}

// eachPlace gives the sample with a text in one of its places, and the byte at which it stands.
func eachPlace(text string, do func(s string, at int)) {
	parts := strings.Split(betweenParts, "_")
	for i := 1; i < len(parts); i++ {
		ahead := strings.Join(parts[:i], "")
		do(ahead+text+strings.Join(parts[i:], ""), len(ahead))
	}
}

func TestEachByteBetweenParts(t *testing.T) {
	for b := range 256 {
		text := string([]byte{byte(b)})
		eachPlace(text, func(s string, at int) {
			checkText(t, s)
			_, f := reader.Single(s)
			switch {
			case b == 9 || b == 10 || b == 13 || b == 32:
				if f.Code != api.OK {
					t.Fatalf("blank %d: Single(%q): %v", b, s, f)
				}
			case b < 32 || b > 126:
				if f != faultAt(api.ErrJSON, s, at) {
					t.Fatalf("byte %d: Single(%q): %v", b, s, f)
				}
			}
		})
	}
}

func TestWhatIsNoBlank(t *testing.T) {
	for _, b := range []string{"\u00a0", "\u0085", "\u2003", "\u2028", "\u3000", "\ufffe", "\v", "\f", "\x00", "\x1e", "\xa0", "#\n", "/**/"} {
		eachPlace(b, func(s string, at int) {
			if got, f := reader.Single(s); f != faultAt(api.ErrJSON, s, at) || !same(got, null) {
				t.Errorf("Single(%q) = %s, %v", s, shown(got), f)
			}
		})
	}
}

// TestMark asks for the bytes ef bb bf: at the text's beginning they are blanks, elsewhere they are not.
func TestMark(t *testing.T) {
	for _, s := range []string{mark + "1", mark + " 1", mark + "\n1 "} {
		if got, f := reader.Single(s); f != (api.Fault{}) || !same(got, num(1)) {
			t.Errorf("Single(%q) = %s, %v", s, shown(got), f)
		}
	}
	for _, x := range []struct {
		s    string
		n    int // how many values there are ahead of the fault
		code api.Errno
		off  int
	}{
		{mark, 0, api.OK, 0},
		{mark + " \n", 0, api.OK, 0},
		{mark + mark, 0, api.ErrJSON, 3},
		{mark + mark + "1", 0, api.ErrJSON, 3},
		{mark + "1" + mark, 1, api.ErrJSON, 4},
		{mark + "1 " + mark + "2", 1, api.ErrJSON, 5},
		{mark + "[" + mark + "]", 0, api.ErrJSON, 4},
		{mark + "x", 0, api.ErrLiteral, 3},
		{mark + "[", 0, api.ErrEnd, 4},
		{" " + mark + "1", 0, api.ErrJSON, 1},
		{"\n" + mark + "1", 0, api.ErrJSON, 1},
		{"1" + mark, 1, api.ErrJSON, 1},
		{"[" + mark + "1]", 0, api.ErrJSON, 1},
		{"{" + mark + "}", 0, api.ErrJSON, 1},
		{"\xef", 0, api.ErrJSON, 0},
		{"\xef\xbb", 0, api.ErrJSON, 0},
		{"\xef\xbb1", 0, api.ErrJSON, 0},
		{"\xef\xbf\xbb1", 0, api.ErrJSON, 0},
		{"\xbb\xbf1", 0, api.ErrJSON, 0},
		{"\xbf1", 0, api.ErrJSON, 0},
		{"\xef1", 0, api.ErrJSON, 0},
		{"\xef\xef\xbb\xbf1", 0, api.ErrJSON, 0},
		{"\xfe\xff1", 0, api.ErrJSON, 0},
	} {
		want := api.Fault{}
		if x.code != api.OK {
			want = faultAt(x.code, x.s, x.off)
		}
		if l, f := reader.All(x.s); f != want || len(l) != x.n {
			t.Errorf("All(%q) = %s, %v, want %d values, %v", x.s, shown(l...), f, x.n, want)
		}
		checkPlaces(t, x.s)
	}
	if got, f := reader.Single(`"` + mark + `"`); f.Code != api.OK || got.Str != "\ufeff" {
		t.Errorf("in a string: %q, %v", got.Str, f)
	}
}

// TestMarkFromWithin begins within the mark: what is left of it is blank, too.
func TestMarkFromWithin(t *testing.T) {
	for off := -1; off <= 3; off++ {
		if v, end, ok, f := reader.One(mark+"7", off); !same(v, num(7)) || end != 4 || !ok || f != (api.Fault{}) {
			t.Errorf("One(mark 7, %d) = %s, %d, %v, %v", off, shown(v), end, ok, f)
		}
		if v, end, ok, f := reader.One(mark, off); !same(v, null) || end != 3 || ok || f != (api.Fault{}) {
			t.Errorf("One(mark, %d) = %s, %d, %v, %v", off, shown(v), end, ok, f)
		}
	}
}
