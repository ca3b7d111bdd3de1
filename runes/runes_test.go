package runes_test

import (
	"math"
	"slices"
	"strings"
	"testing"
	"unsafe"

	"colander/api"
	"colander/runes"
	"colander/sample"
)

// P1.1

// checkPieces holds what is told of a text's pieces against the model.
func checkPieces(t *testing.T, s string) {
	t.Helper()
	parts, points, valid := piecesOf(s)
	if got := runes.Count(s); got != len(parts) {
		t.Fatalf("Count(% x) = %d, want %d", s, got, len(parts))
	}
	if got := runes.Points(s); !slices.Equal(got, points) {
		t.Fatalf("Points(% x) = %v, want %v", s, got, points)
	}
	if got := runes.Valid(s); got != valid {
		t.Fatalf("Valid(% x) = %v", s, got)
	}
	var want strings.Builder
	for _, p := range points {
		want.WriteString(bytesOf(p))
	}
	if got := runes.Clean([]byte(s)); got != want.String() {
		t.Fatalf("Clean(% x) = % x, want % x", s, got, want.String())
	}
}

func TestPiecesByHand(t *testing.T) {
	tests := []struct {
		s      string
		points []int
		valid  bool
		clean  string
	}{
		{"", nil, true, ""},
		{"abc", []int{97, 98, 99}, true, "abc"},
		{"a\x00b", []int{97, 0, 98}, true, "a\x00b"},
		{"a\u00e9", []int{97, 233}, true, "a\u00e9"},
		{"\u20ac\U0001f600", []int{8364, 128512}, true, "\u20ac\U0001f600"},
		{"\U0010ffff", []int{1114111}, true, "\U0010ffff"},
		{"\ufffd", []int{65533}, true, "\ufffd"},
		{"a\xffb", []int{97, 65533, 98}, false, "a\ufffdb"},
		{"\xe2\x82", []int{65533, 65533}, false, "\ufffd\ufffd"},
		{"\xe2\x82a", []int{65533, 65533, 97}, false, "\ufffd\ufffda"},
		{"\ufffd\xff", []int{65533, 65533}, false, "\ufffd\ufffd"},
		{"\x80", []int{65533}, false, "\ufffd"},
		{"\xc0\x80", []int{65533, 65533}, false, "\ufffd\ufffd"},
		{"\xe0\x9f\xbf", []int{65533, 65533, 65533}, false, "\ufffd\ufffd\ufffd"},
		{"\xf0\x8f\xbf\xbf", []int{65533, 65533, 65533, 65533}, false, "\ufffd\ufffd\ufffd\ufffd"},
		{"\xed\x9f\xbf\xee\x80\x80", []int{55295, 57344}, true, "\ud7ff\ue000"},
		{"\xed\xa0\x80", []int{65533, 65533, 65533}, false, "\ufffd\ufffd\ufffd"},
		{"\xed\xbf\xbf", []int{65533, 65533, 65533}, false, "\ufffd\ufffd\ufffd"},
		{"\xf4\x90\x80\x80", []int{65533, 65533, 65533, 65533}, false, "\ufffd\ufffd\ufffd\ufffd"},
	}
	for _, x := range tests {
		if got := runes.Points(x.s); !slices.Equal(got, x.points) {
			t.Errorf("Points(% x) = %v, want %v", x.s, got, x.points)
		}
		if got := runes.Count(x.s); got != len(x.points) {
			t.Errorf("Count(% x) = %d, want %d", x.s, got, len(x.points))
		}
		if got := runes.Valid(x.s); got != x.valid {
			t.Errorf("Valid(% x) = %v", x.s, got)
		}
		if got := runes.Clean([]byte(x.s)); got != x.clean {
			t.Errorf("Clean(% x) = % x, want % x", x.s, got, x.clean)
		}
	}
	if got := runes.Clean(nil); got != "" {
		t.Errorf("Clean(nil) = %q", got)
	}
}

func TestPiecesOfEdgeBytes(t *testing.T) {
	var edges []string
	for _, b := range edgeBytes() {
		edges = append(edges, string([]byte{b}))
	}
	sample.EachText(edges, 4, func(s string) { checkPieces(t, s) })
}

func TestPiecesOfAllPairs(t *testing.T) {
	for n := range 65536 {
		checkPieces(t, string([]byte{byte(n / 256), byte(n)}))
	}
}

func TestAllPoints(t *testing.T) {
	for p := range 1114112 {
		s, e := runes.Of([]int{p})
		if p >= 55296 && p <= 57343 {
			if s != "" || e != api.ErrArg {
				t.Fatalf("Of(%d) = % x, %d", p, s, e)
			}
			continue
		}
		if e != api.OK || s != bytesOf(p) {
			t.Fatalf("Of(%d) = % x, %d", p, s, e)
		}
		if got := runes.Points(s); len(got) != 1 || got[0] != p || !runes.Valid(s) {
			t.Fatalf("Points(% x) = %v, want %d", s, got, p)
		}
	}
}

func TestOf(t *testing.T) {
	tests := []struct {
		points []int
		s      string
		e      api.Errno
	}{
		{nil, "", api.OK},
		{[]int{}, "", api.OK},
		{[]int{104, 233}, "h\u00e9", api.OK},
		{[]int{0, 65533, 1114111}, "\x00\ufffd\U0010ffff", api.OK},
		{[]int{-1}, "", api.ErrArg},
		{[]int{97, 55296}, "", api.ErrArg},
		{[]int{57343, 97}, "", api.ErrArg},
		{[]int{55295, 57344}, "\ud7ff\ue000", api.OK},
		{[]int{1114112}, "", api.ErrArg},
		{[]int{97, 98, 1 << 32}, "", api.ErrArg},
		{[]int{1<<32 + 97}, "", api.ErrArg},
		{[]int{-1<<32 + 97}, "", api.ErrArg},
		{[]int{math.MaxInt}, "", api.ErrArg},
		{[]int{math.MinInt}, "", api.ErrArg},
	}
	for _, x := range tests {
		if s, e := runes.Of(x.points); s != x.s || e != x.e {
			t.Errorf("Of(%v) = % x, %d, want % x, %d", x.points, s, e, x.s, x.e)
		}
	}
}

// P1.2

func TestSlice(t *testing.T) {
	tests := []struct {
		s        string
		from, to int
		want     string
	}{
		{"h\u00e9llo", 1, 3, "\u00e9l"},
		{"h\u00e9llo", 0, 5, "h\u00e9llo"},
		{"h\u00e9llo", 4, 5, "o"},
		{"h\u00e9llo", -7, 2, "h\u00e9"},
		{"h\u00e9llo", 3, 99, "lo"},
		{"h\u00e9llo", math.MinInt, math.MaxInt, "h\u00e9llo"},
		{"h\u00e9llo", 5, 9, ""},
		{"h\u00e9llo", 6, 9, ""},
		{"h\u00e9llo", 2, 2, ""},
		{"h\u00e9llo", 3, 1, ""},
		{"h\u00e9llo", math.MaxInt, math.MinInt, ""},
		{"h\u00e9llo", -3, -1, ""},
		{"h\u00e9llo", -3, 0, ""},
		{"", 0, 1, ""},
		{"", -1, 1, ""},
		{"\xe2\x82a", 1, 2, "\x82"},
		{"\xe2\x82a", 0, 2, "\xe2\x82"},
		{"a\xff\u20ac", 1, 3, "\xff\u20ac"},
	}
	for _, x := range tests {
		if got := runes.Slice(x.s, x.from, x.to); got != x.want {
			t.Errorf("Slice(%q, %d, %d) = %q, want %q", x.s, x.from, x.to, got, x.want)
		}
	}
}

func TestSliceOfOddTexts(t *testing.T) {
	oddTexts(func(s string) {
		parts, _, _ := piecesOf(s)
		n := len(parts)
		for from := -2; from <= n+2; from++ {
			for to := -2; to <= n+2; to++ {
				low, high := min(max(from, 0), n), min(max(to, 0), n)
				want := ""
				if low < high {
					want = strings.Join(parts[low:high], "")
				}
				if got := runes.Slice(s, from, to); got != want {
					t.Fatalf("Slice(% x, %d, %d) = % x, want % x", s, from, to, got, want)
				}
			}
		}
	})
}

// P1.4

func TestCase(t *testing.T) {
	var all, upper, lower []byte
	for n := range 256 {
		b := byte(n)
		all = append(all, b)
		if b >= 'a' && b <= 'z' {
			upper = append(upper, b-32)
		} else {
			upper = append(upper, b)
		}
		if b >= 'A' && b <= 'Z' {
			lower = append(lower, b+32)
		} else {
			lower = append(lower, b)
		}
	}
	tests := []struct {
		s    string
		up   bool
		want string
	}{
		{"", true, ""},
		{"", false, ""},
		{"aB", true, "AB"},
		{"aB", false, "ab"},
		{"@[`{az AZ", true, "@[`{AZ AZ"},
		{"@[`{az AZ", false, "@[`{az az"},
		{"\u00e9\u00c9\u0131\xff", true, "\u00e9\u00c9\u0131\xff"},
		{"\u00e9\u00c9\u212a\xff", false, "\u00e9\u00c9\u212a\xff"},
		{string(all), true, string(upper)},
		{string(all), false, string(lower)},
	}
	for _, x := range tests {
		if got := runes.Case(x.s, x.up); got != x.want {
			t.Errorf("Case(%q, %v) = %q, want %q", x.s, x.up, got, x.want)
		}
	}
}

func TestTrim(t *testing.T) {
	tests := []struct {
		s           string
		left, right bool
		want        string
	}{
		{" a ", true, false, "a "},
		{" a ", false, true, " a"},
		{" a ", true, true, "a"},
		{" a ", false, false, " a "},
		{"\t\n\v\f\r a b \r\f\v\n\t", true, true, "a b"},
		{" \t ", true, false, ""},
		{" \t ", false, true, ""},
		{" \t ", true, true, ""},
		{" \t ", false, false, " \t "},
		{"", true, true, ""},
		{"\u00a0a\u2003", true, true, "\u00a0a\u2003"},
		{" \xff ", true, true, "\xff"},
	}
	for _, x := range tests {
		if got := runes.Trim(x.s, x.left, x.right); got != x.want {
			t.Errorf("Trim(%q, %v, %v) = %q, want %q", x.s, x.left, x.right, got, x.want)
		}
	}
}

func TestTrimOfEachByte(t *testing.T) {
	for n := range 256 {
		b := string([]byte{byte(n)})
		want := b + "x" + b
		if n >= 9 && n <= 13 || n == 32 {
			want = "x"
		}
		if got := runes.Trim(b+"x"+b, true, true); got != want {
			t.Errorf("Trim with byte %d: %q", n, got)
		}
	}
}

func TestRepeat(t *testing.T) {
	most := strings.Repeat("x", api.MaxBytes)
	tests := []struct {
		name string
		s    string
		n    int
		want string
		e    api.Errno
	}{
		{"some times", "ab", 3, "ababab", api.OK},
		{"once", "ab", 1, "ab", api.OK},
		{"not at all", "ab", 0, "", api.OK},
		{"bytes as they are", "\xffa", 2, "\xffa\xffa", api.OK},
		{"below 0", "ab", -1, "", api.ErrArg},
		{"far below 0", "ab", math.MinInt, "", api.ErrArg},
		{"the empty text below 0", "", -1, "", api.ErrArg},
		{"the empty text", "", 5, "", api.OK},
		{"the empty text often", "", math.MaxInt, "", api.OK},
		{"MaxBytes", "x", api.MaxBytes, most, api.OK},
		{"MaxBytes once", most, 1, most, api.OK},
		{"MaxBytes in halves", most[:api.MaxBytes/2], 2, most, api.OK},
		{"one byte more", "x", api.MaxBytes + 1, "", api.ErrArg},
		{"one byte more once", most + "x", 1, "", api.ErrArg},
		{"one byte more, not at all", most + "x", 0, "", api.OK},
		{"just below MaxBytes", "xxx", api.MaxBytes / 3, most[:api.MaxBytes/3*3], api.OK},
		{"just above MaxBytes", "xxx", api.MaxBytes/3 + 1, "", api.ErrArg},
		{"past the end of an int", "xx", math.MaxInt, "", api.ErrArg},
		{"round to a small product", "xxxx", 1 << 62, "", api.ErrArg},
	}
	for _, x := range tests {
		if got, e := runes.Repeat(x.s, x.n); got != x.want || e != x.e {
			t.Errorf("%s: %d bytes, error %d; want %d bytes, error %d", x.name, len(got), e, len(x.want), x.e)
		}
	}
}

// P1.5

func TestWhatFollows(t *testing.T) {
	oddTexts(func(s string) {
		clean := runes.Clean([]byte(s))
		if !runes.Valid(clean) || runes.Clean([]byte(clean)) != clean {
			t.Fatalf("Clean(% x) = % x is not clean", s, clean)
		}
		if runes.Valid(s) != (clean == s) {
			t.Fatalf("Valid(% x), but Clean is % x", s, clean)
		}
		back, e := runes.Of(runes.Points(s))
		if e != api.OK || back != clean {
			t.Fatalf("Of(Points(% x)) = % x, %d", s, back, e)
		}
		for n := -1; n <= runes.Count(s)+1; n++ {
			if runes.Slice(s, 0, n)+runes.Slice(s, n, runes.Count(s)) != s {
				t.Fatalf("Slice cuts % x at %d into other bytes", s, n)
			}
		}
		for _, by := range []string{"", "a", "b", "ab", "\xc3", "\xa9", "\u00e9", "aa"} {
			if strings.Join(runes.Split(s, by), by) != s {
				t.Fatalf("Split(% x, % x) = %q", s, by, runes.Split(s, by))
			}
		}
	})
}

// The rules: what is handed in is not changed and not kept; an answer is the caller's own.

func TestAnswersAreNew(t *testing.T) {
	b := []byte("ab\xff")
	s := runes.Clean(b)
	if string(b) != "ab\xff" {
		t.Error("Clean changed its bytes")
	}
	b[0] = 'x'
	if s != "ab\ufffd" {
		t.Error("Clean kept its bytes")
	}
	points := []int{97, 98}
	runes.Of(points)
	if !slices.Equal(points, []int{97, 98}) {
		t.Error("Of changed its points")
	}
	first := runes.Points("ab")
	first[0] = 0
	if second := runes.Points("ab"); second[0] != 97 {
		t.Error("Points answered one list twice")
	}
}

func TestTextsAreNew(t *testing.T) {
	s := strings.Repeat("abc,", 9)
	once, _ := runes.Repeat(s, 1)
	answers := []string{
		once,
		runes.Slice(s, 0, len(s)), runes.Slice(s, 4, 9),
		runes.Case(s, false), runes.Trim(s, true, true), runes.Trim(s, false, false),
	}
	answers = append(answers, runes.Split(s, ",")...)
	answers = append(answers, runes.Split(s, "")...)
	for i, a := range answers {
		if a == "" {
			continue
		}
		at, from := uintptr(unsafe.Pointer(unsafe.StringData(a))), uintptr(unsafe.Pointer(unsafe.StringData(s)))
		if at >= from && at < from+uintptr(len(s)) {
			t.Errorf("answer %d, %q, shares the argument's memory", i, a)
		}
	}
}
