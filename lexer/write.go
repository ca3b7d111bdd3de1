package lexer

import (
	"math"
	"slices"
	"strings"

	"colander/api"
	"colander/number"
)

// withoutEnd answers a row of tokens without the end that may stand behind them.
func withoutEnd(l []api.Token) []api.Token {
	if n := len(l); n > 0 && sameToken(l[n-1], api.Token{Kind: api.TokEnd}) {
		return l[:n-1]
	}
	return l
}

// same tells whether two rows of tokens are alike but for spots.
func same(a, b []api.Token) bool {
	return slices.EqualFunc(a, b, sameToken)
}

func sameToken(a, b api.Token) bool {
	return a.Kind == b.Kind && a.Text == b.Text && math.Float64bits(a.Num) == math.Float64bits(b.Num)
}

// written answers the text of tokens, whether or not a text may have such a row.
func written(l []api.Token) string {
	var out strings.Builder
	for i, t := range l {
		if i > 0 && isApart(l[i-1].Kind, t.Kind) {
			out.WriteByte(' ')
		}
		writeToken(&out, t)
	}
	return out.String()
}

// isApart tells whether a blank stands between two tokens of these kinds.
func isApart(first, second api.TokenKind) bool {
	switch first {
	case api.TokOpen, api.TokText, api.TokInto, api.TokBack:
		return false
	}
	return second != api.TokBack
}

func writeToken(out *strings.Builder, t api.Token) {
	switch t.Kind {
	case api.TokName, api.TokWord, api.TokFormat, api.TokSign:
		out.WriteString(t.Text)
	case api.TokField:
		out.WriteString("." + t.Text)
	case api.TokVar:
		out.WriteString("$" + t.Text)
	case api.TokNumber:
		out.WriteString(numberText(t.Num))
	case api.TokText:
		writePiece(out, t.Text)
	case api.TokOpen, api.TokClose:
		out.WriteByte('"')
	case api.TokInto:
		out.WriteString(into)
	case api.TokBack:
		out.WriteByte(')')
	}
}

func numberText(f float64) string {
	if f > math.MaxFloat64 {
		return "1e1000" // layer 2 writes an infinity as the greatest number
	}
	return number.Text(f)
}

// writePiece writes the text of a string in such a way that it is read as it is.
func writePiece(out *strings.Builder, s string) {
	const hex = "0123456789abcdef"
	for _, c := range []byte(s) {
		switch {
		case c == '"' || c == '\\':
			out.WriteByte('\\')
			out.WriteByte(c)
		case c == '\n':
			out.WriteString(`\n`)
		case c < ' ' || c == 0x7f:
			out.WriteString(`\u00`)
			out.WriteByte(hex[c>>4])
			out.WriteByte(hex[c&0xf])
		default:
			out.WriteByte(c)
		}
	}
}
