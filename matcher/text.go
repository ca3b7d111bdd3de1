package matcher

import (
	"strings"
	"unicode/utf8"

	"colander/api"
	"colander/runes"
)

// text is a text by code points: bad bytes are the code point as which they count, and if letters of either case are the same, they are small ones.
type text struct {
	bytes  string
	starts []int // the byte at which each code point begins, at last that of the end
}

func newText(s string, fold bool) text {
	t := text{bytes: runes.Clean([]byte(s))}
	if fold {
		t.bytes = runes.Case(t.bytes, false)
	}
	t.starts = make([]int, 0, runes.Count(s)+1)
	for i := range t.bytes {
		t.starts = append(t.starts, i)
	}
	t.starts = append(t.starts, len(t.bytes))
	return t
}

// count tells how many code points there are.
func (t text) count() int {
	return len(t.starts) - 1
}

// point answers the code point at a place, and whether there is one.
func (t text) point(at int) (int, bool) {
	if at < 0 || at >= t.count() {
		return 0, false
	}
	r, _ := utf8.DecodeRuneInString(t.bytes[t.starts[at]:])
	return int(r), true
}

// again tells whether what a group has stands at a place, and answers the place behind it.
func (t text) again(span api.Span, at int) (int, bool) {
	if span.From < 0 {
		return 0, false
	}
	part := t.bytes[t.starts[span.From]:t.starts[span.To]]
	return at + span.To - span.From, strings.HasPrefix(t.bytes[t.starts[at]:], part)
}

// isLast tells whether a place is the end, or ahead of the line end that is the last code point.
func (t text) isLast(at int) bool {
	rest := t.bytes[t.starts[at]:]
	return rest == "" || rest == "\n"
}

// isWordPart tells whether the code point at a place is one of which words are made; where there is none, it is not.
func (t text) isWordPart(at int) bool {
	c, ok := t.point(at)
	return ok && (c >= '0' && c <= '9' || c == '_' || c >= 'A' && c <= 'Z' || c >= 'a' && c <= 'z')
}
