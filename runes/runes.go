// Package runes is layer 1: texts by code points, read with replacements, counted, cut and searched.
package runes

import (
	"strings"
	"unicode/utf8"

	"colander/api"
)

// replacement is a text of the code point that a bad byte counts as.
const replacement = string(utf8.RuneError)

// Clean answers the text of b's pieces, each as UTF-8.
func Clean(b []byte) string {
	var out strings.Builder
	out.Grow(len(b))
	for _, r := range string(b) {
		out.WriteRune(r)
	}
	return out.String()
}

// Valid tells whether each piece of s is a code point's bytes.
func Valid(s string) bool {
	for i, r := range s {
		// The replacement itself is a code point, too: only one that does not stand there tells of a bad byte.
		if r == utf8.RuneError && !strings.HasPrefix(s[i:], replacement) {
			return false
		}
	}
	return true
}

// Count tells how many pieces s has.
func Count(s string) int {
	n := 0
	for range s {
		n++
	}
	return n
}

// Points answers the code points of s's pieces.
func Points(s string) []int {
	var out []int
	for _, r := range s {
		out = append(out, int(r))
	}
	return out
}

// Of answers the text of code points: ErrArg, if one of them is none.
func Of(points []int) (string, api.Errno) {
	var out strings.Builder
	for _, p := range points {
		if !isPoint(p) {
			return "", api.ErrArg
		}
		out.WriteRune(rune(p))
	}
	return out.String(), api.OK
}

// isPoint is asked of an int, as a rune has no room for what is far out of the range.
func isPoint(n int) bool {
	const firstHalf, lastHalf = 0xd800, 0xdfff
	return n >= 0 && n <= utf8.MaxRune && (n < firstHalf || n > lastHalf)
}

// Slice answers the bytes of s's pieces from number from on up to just ahead of number to.
func Slice(s string, from int, to int) string {
	from = max(from, 0)
	if from >= to {
		return ""
	}
	start, end, piece := len(s), len(s), 0
	for i := range s {
		if piece == from {
			start = i
		}
		if piece == to {
			end = i
			break
		}
		piece++
	}
	return strings.Clone(s[start:end]) // an answer is new memory
}

// Case answers s with each of its letters a to z as A to Z (up), or the other way round.
func Case(s string, up bool) string {
	from, to := byte('A'), byte('a')
	if up {
		from, to = to, from
	}
	b := []byte(s)
	for i, c := range b {
		if c >= from && c < from+26 {
			b[i] = c - from + to
		}
	}
	return string(b)
}

// Trim answers s without the blanks at its left end, its right end.
func Trim(s string, left bool, right bool) string {
	start, end := 0, len(s)
	for left && start < end && isBlank(s[start]) {
		start++
	}
	for right && start < end && isBlank(s[end-1]) {
		end--
	}
	return strings.Clone(s[start:end]) // an answer is new memory
}

func isBlank(c byte) bool {
	return c == ' ' || c >= '\t' && c <= '\r'
}

// Repeat answers s n times: ErrArg, if n is below 0, or that would be more than MaxBytes.
func Repeat(s string, n int) (string, api.Errno) {
	// The limit is divided, as the product may be past the end of an int.
	if n < 0 || s != "" && n > api.MaxBytes/len(s) {
		return "", api.ErrArg
	}
	return strings.Clone(strings.Repeat(s, n)), api.OK // once, Repeat answers s itself
}
