package regex

import (
	"cmp"
	"slices"
	"strings"
	"unicode/utf8"

	"colander/api"
)

// Ranges of code points below 128 are written as pairs: the first and the last one of each range, rising.
const (
	digits           = "09"
	hexDigits        = "09AFaf"
	blanks           = "\t\r  "
	lettersAndDigits = "09AZaz"
	wordParts        = "09AZ__az"
)

// class is a class of code points: its name, and its ranges as pairs.
type class struct {
	name  string
	pairs string
}

func posixClasses() []class {
	return []class{
		{"alnum", lettersAndDigits},
		{"alpha", "AZaz"},
		{"blank", "\t\t  "},
		{"cntrl", "\x00\x1f\x7f\x7f"},
		{"digit", digits},
		{"graph", "!~"},
		{"lower", "az"},
		{"print", " ~"},
		{"punct", "!/:@[`{~"},
		{"space", blanks},
		{"upper", "AZ"},
		{"word", wordParts},
		{"xdigit", hexDigits},
	}
}

// class reads an escape that is a class, and answers its ranges; of anything else nothing.
func (s *source) class() []api.Range {
	for _, c := range [...]class{{"d", digits}, {"w", wordParts}, {"s", blanks}, {"h", hexDigits}} {
		if s.take(`\` + c.name) {
			return rangesOf(c.pairs)
		}
		if s.take(`\` + strings.ToUpper(c.name)) {
			return others(rangesOf(c.pairs))
		}
	}
	return nil
}

// isWithin tells whether a byte is within ranges, given as pairs.
func isWithin(pairs string, c byte) bool {
	for i := 0; i < len(pairs); i += 2 {
		if c >= pairs[i] && c <= pairs[i+1] {
			return true
		}
	}
	return false
}

func rangesOf(pairs string) []api.Range {
	var out []api.Range
	for i := 0; i < len(pairs); i += 2 {
		out = append(out, api.Range{From: int(pairs[i]), To: int(pairs[i+1])})
	}
	return out
}

// others answers the ranges of all code points that are in none of these, which rise.
func others(ranges []api.Range) []api.Range {
	var out []api.Range
	next := 0
	for _, r := range ranges {
		if next < r.From {
			out = append(out, api.Range{From: next, To: r.From - 1})
		}
		next = r.To + 1
	}
	return append(out, api.Range{From: next, To: utf8.MaxRune})
}

// tidied sorts ranges, and answers ones of the same code points that rise, none of them beginning within or right behind another one.
func tidied(ranges []api.Range) []api.Range {
	slices.SortFunc(ranges, func(a, b api.Range) int {
		return cmp.Compare(a.From, b.From)
	})
	var out []api.Range
	for _, r := range ranges {
		if last := len(out) - 1; last >= 0 && r.From <= out[last].To+1 {
			out[last].To = max(out[last].To, r.To)
		} else {
			out = append(out, r)
		}
	}
	return out
}
