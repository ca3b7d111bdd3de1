package value

import (
	"math"
	"strings"
	"unicode/utf8"

	"colander/api"
	"colander/number"
	"colander/runes"
)

// Text answers v as JSON without blanks.
func Text(v api.Value) string {
	w := writer{enough: math.MaxInt}
	w.value(v)
	return w.out.String()
}

// Short answers v's text; of one that has too many code points, its beginning and three points.
func Short(v api.Value) string {
	const most, mark = 24, "..."
	// So many bytes are more code points than are told: errors do not cost more, the greater their values are.
	w := writer{enough: most * utf8.UTFMax}
	w.value(v)
	text := w.out.String()
	if runes.Count(text) <= most {
		return text
	}
	return runes.Slice(text, 0, most-len(mark)) + mark
}

// writer writes values; once it has more than enough bytes, it may leave out what is left.
type writer struct {
	out    strings.Builder
	enough int
}

func (w *writer) isFull() bool {
	return w.out.Len() > w.enough
}

func (w *writer) value(v api.Value) {
	switch v.Kind {
	case api.Null:
		w.out.WriteString("null")
	case api.False:
		w.out.WriteString("false")
	case api.True:
		w.out.WriteString("true")
	case api.Number:
		w.out.WriteString(number.Text(v.Num))
	case api.String:
		w.text(v.Str)
	case api.Array:
		w.row('[', ']', len(v.List), func(i int) {
			w.value(v.List[i])
		})
	case api.Object:
		w.row('{', '}', len(v.List), func(i int) {
			w.text(v.Keys[i])
			w.out.WriteByte(':')
			w.value(v.List[i])
		})
	}
}

// row writes n parts, each of them by one, between brackets.
func (w *writer) row(open, end byte, n int, one func(i int)) {
	w.out.WriteByte(open)
	for i := range n {
		if w.isFull() {
			return
		}
		if i > 0 {
			w.out.WriteByte(',')
		}
		one(i)
	}
	w.out.WriteByte(end)
}

func (w *writer) text(s string) {
	w.out.WriteByte('"')
	for _, r := range s {
		if w.isFull() {
			return
		}
		w.point(r)
	}
	w.out.WriteByte('"')
}

// point writes a code point of a string.
func (w *writer) point(r rune) {
	const hex, del = "0123456789abcdef", 127
	switch r {
	case '"', '\\':
		w.escape(byte(r))
	case '\b':
		w.escape('b')
	case '\f':
		w.escape('f')
	case '\n':
		w.escape('n')
	case '\r':
		w.escape('r')
	case '\t':
		w.escape('t')
	default:
		if r >= ' ' && r != del {
			w.out.WriteRune(r)
			return
		}
		w.out.WriteString(`\u00`)
		w.out.WriteByte(hex[r/16])
		w.out.WriteByte(hex[r%16])
	}
}

func (w *writer) escape(c byte) {
	w.out.WriteByte('\\')
	w.out.WriteByte(c)
}
