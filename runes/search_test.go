package runes_test

import (
	"slices"
	"strings"
	"testing"

	"colander/runes"
	"colander/sample"
)

// P1.3

func TestFind(t *testing.T) {
	tests := []struct {
		s, part string
		want    []int
	}{
		{"abab", "ab", []int{0, 2}},
		{"aaa", "aa", []int{0, 1}},
		{"ababa", "aba", []int{0, 2}},
		{"aabaabaa", "aabaa", []int{0, 3}},
		{"h\u00e9l\u00e9", "\u00e9", []int{1, 3}},
		{"h\u00e9llo", "l", []int{2, 3}},
		{"abc", "abc", []int{0}},
		{"abc", "abcd", nil},
		{"abc", "x", nil},
		{"abc", "", nil},
		{"", "a", nil},
		{"", "", nil},
		{"\u00e9a\u00e9", "\xa9", nil},
		{"\u00e9a\u00e9", "\xc3", []int{0, 2}},
		{"\u00e9a\u00e9", "\xa9a", nil},
		{"\u00e9a", "\u00e9a", []int{0}},
		{"\xa9\u00e9\xa9", "\xa9", []int{0, 2}},
		{"\xff\xff\xff", "\xff\xff", []int{0, 1}},
		{"\xff", "\ufffd", nil},
		{"\xe2\x82\xe2\x82\xac", "\xe2\x82", []int{0, 2}},
	}
	for _, x := range tests {
		if got := runes.Find(x.s, x.part); !slices.Equal(got, x.want) {
			t.Errorf("Find(%q, %q) = %v, want %v", x.s, x.part, got, x.want)
		}
	}
}

func TestSplit(t *testing.T) {
	tests := []struct {
		s, by string
		want  []string
	}{
		{"a,b,", ",", []string{"a", "b", ""}},
		{",a,,b", ",", []string{"", "a", "", "b"}},
		{",", ",", []string{"", ""}},
		{"ab", ",", []string{"ab"}},
		{"ab", "ab", []string{"", ""}},
		{"ab", "abc", []string{"ab"}},
		{"", ",", nil},
		{"", "", nil},
		{"ab", "", []string{"a", "b"}},
		{"a\u00e9\u20ac", "", []string{"a", "\u00e9", "\u20ac"}},
		{"\xe2\x82a\xff", "", []string{"\xe2", "\x82", "a", "\xff"}},
		{"aaa", "aa", []string{"", "a"}},
		{"aaaa", "aa", []string{"", "", ""}},
		{"xababay", "aba", []string{"x", "bay"}},
		{"1, 2, 3", ", ", []string{"1", "2", "3"}},
		{"a\u00e9b", "\xa9", []string{"a\xc3", "b"}},
		{"a\xffb", "\xff", []string{"a", "b"}},
		{"a\xffb", "\ufffd", []string{"a\xffb"}},
	}
	for _, x := range tests {
		if got := runes.Split(x.s, x.by); !slices.Equal(got, x.want) {
			t.Errorf("Split(%q, %q) = %q, want %q", x.s, x.by, got, x.want)
		}
	}
}

func TestFindAndSplitOfOddTexts(t *testing.T) {
	parts := []string{
		"", "a", "b", "aa", "ab", "aba", "aab", "\xc3", "\xa9", "\u00e9", "a\xc3", "\xa9a",
		"\xe2", "\x82", "\xe2\x82", "\ufffd", "\xbd", "\u00e9\u00e9", "\xf0", "\x9f\x98", "\U0001f600",
	}
	oddTexts(func(s string) {
		for _, part := range parts {
			if got, want := runes.Find(s, part), findIn(s, part); !slices.Equal(got, want) {
				t.Fatalf("Find(% x, % x) = %v, want %v", s, part, got, want)
			}
			if got, want := runes.Split(s, part), splitOf(s, part); !slices.Equal(got, want) {
				t.Fatalf("Split(% x, % x) = %q, want %q", s, part, got, want)
			}
		}
	})
}

// TestSearchOfTwoLetters holds texts that repeat themselves in all ways against the model.
func TestSearchOfTwoLetters(t *testing.T) {
	var parts []string
	sample.EachText([]string{"a", "b"}, 6, func(s string) { parts = append(parts, s) })
	sample.EachText([]string{"a", "b"}, 10, func(s string) {
		for _, part := range parts {
			if got, want := runes.Find(s, part), findIn(s, part); !slices.Equal(got, want) {
				t.Fatalf("Find(%q, %q) = %v, want %v", s, part, got, want)
			}
			if got, want := runes.Split(s, part), splitOf(s, part); !slices.Equal(got, want) {
				t.Fatalf("Split(%q, %q) = %q, want %q", s, part, got, want)
			}
		}
	})
}

// TestSearchOfLongTexts would not end in good time, if each place were compared anew.
func TestSearchOfLongTexts(t *testing.T) {
	const half = 1 << 22
	s, part := strings.Repeat("a", 2*half), strings.Repeat("a", half)
	got := runes.Find(s, part)
	if len(got) != half+1 || got[0] != 0 || got[half] != half {
		t.Errorf("Find of a long text: %d places", len(got))
	}
	if l := runes.Split(s, part); len(l) != 3 || l[0]+l[1]+l[2] != "" {
		t.Errorf("Split of a long text: %d parts", len(l))
	}
	if l := runes.Find(s, part[1:]+"b"); len(l) != 0 {
		t.Errorf("Find of a part that nearly stands there: %d places", len(l))
	}
	if l := runes.Split(s, ""); len(l) != 2*half || l[0] != "a" {
		t.Errorf("Split into pieces: %d parts", len(l))
	}
}
