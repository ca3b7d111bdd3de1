package lexer_test

import (
	"fmt"
	"math"
	"regexp"
	"strconv"
	"strings"
	"testing"
	"unicode/utf16"
	"unicode/utf8"

	"colander/api"
	"colander/lexer"
	"colander/sample"
)

// The tests' own model of what the chapter says: tokens are told by Go's own regular expressions, and strings stand on a stack.

const (
	plainForm = `[A-Za-z_][A-Za-z_0-9]*`
	nameForm  = plainForm + `(?:::` + plainForm + `)*`
)

func form(text string) *regexp.Regexp {
	return regexp.MustCompile(`^(?s:` + text + `)`)
}

// forms are what may stand outside of strings, in the order in which they are asked; a group is the token's text.
var forms = []struct {
	kind api.TokenKind
	is   *regexp.Regexp
}{
	{api.TokField, form(`\.(` + plainForm + `)`)},
	{api.TokVar, form(`\$(` + nameForm + `)`)},
	{api.TokName, form(`(` + nameForm + `)`)},
	{api.TokNumber, form(`(?:[0-9]+(?:\.[0-9]*)?|\.[0-9]+)(?:[eE][+-]?[0-9]+)?()`)},
	{api.TokFormat, form(`(@[A-Za-z_0-9]+)`)},
	{api.TokSign, form(`(\?//|//=|[!=|+*/%<>-]=|//|\.\.|[<>=+*/%|,.\[\](){}:;?$-])`)},
}

var (
	blanksAre = form(`(?:[\t\n\r ]|#[^\n]*)*`)
	pieceIs   = form(`(?:[^"\\]|\\["\\/bfnrt]|\\u[0-9a-fA-F]{4})*`)
	escapeIs  = regexp.MustCompile(`(?:\\u[0-9a-fA-F]{4})+|\\.`)
	wordIs    = regexp.MustCompile(`^(?:def|import|include|module|if|then|elif|else|end|as|reduce|foreach|try|catch|label|break|and|or|__loc__)$`)
	plainIs   = regexp.MustCompile(`^` + plainForm + `$`)
	nameIs    = regexp.MustCompile(`^` + nameForm + `$`)
	formatIs  = regexp.MustCompile(`^@[A-Za-z_0-9]+$`)
)

// said answers what a piece of a string says.
func said(piece string) string {
	return string([]rune(escapeIs.ReplaceAllStringFunc(piece, func(s string) string {
		if s[1] != 'u' {
			if at := strings.IndexByte("bfnrt", s[1]); at >= 0 {
				return "\b\f\n\r\t"[at : at+1]
			}
			return s[1:]
		}
		var units []uint16
		for _, digits := range strings.Split(s, `\u`)[1:] {
			n, _ := strconv.ParseUint(digits, 16, 16)
			units = append(units, uint16(n))
		}
		return string(utf16.Decode(units))
	})))
}

// frame is a string that has begun.
type frame struct {
	quote  int
	into   bool
	parens int
}

// scanner is a text on its way.
type scanner struct {
	s    string
	at   int
	out  []api.Token
	open []frame
}

func (m *scanner) fault(code api.Errno, off int) api.Fault {
	return api.Fault{Code: code, At: sample.SpotOf(m.s, off)}
}

func (m *scanner) add(kind api.TokenKind, text string, num float64, n int) api.Fault {
	if len(m.out) == 65536 && kind != api.TokEnd {
		return m.fault(142, m.at)
	}
	m.out = append(m.out, api.Token{Kind: kind, Text: text, Num: num, At: sample.SpotOf(m.s, m.at)})
	m.at += n
	return api.Fault{}
}

// string goes on in a string.
func (m *scanner) string() api.Fault {
	top := &m.open[len(m.open)-1]
	piece := pieceIs.FindString(m.s[m.at:])
	rest := m.s[m.at+len(piece):]
	switch {
	case rest == "":
		return m.fault(141, top.quote)
	case rest[0] == '\\' && !strings.HasPrefix(rest, `\(`):
		return m.fault(141, m.at+len(piece))
	}
	if piece != "" {
		if f := m.add(api.TokText, said(piece), 0, len(piece)); f.Code != 0 {
			return f
		}
	}
	if rest[0] == '"' {
		m.open = m.open[:len(m.open)-1]
		return m.add(api.TokClose, "", 0, 1)
	}
	top.into = true
	return m.add(api.TokInto, "", 0, 2)
}

// code goes on outside of strings, or in what is interpolated.
func (m *scanner) code() api.Fault {
	rest := m.s[m.at:]
	if rest[0] == '"' {
		m.open = append(m.open, frame{quote: m.at})
		return m.add(api.TokOpen, "", 0, 1)
	}
	if n := len(m.open) - 1; n >= 0 {
		switch top := &m.open[n]; {
		case rest[0] == '(':
			top.parens++
		case rest[0] == ')' && top.parens > 0:
			top.parens--
		case rest[0] == ')':
			top.into = false
			return m.add(api.TokBack, "", 0, 1)
		}
	}
	for _, f := range forms {
		got := f.is.FindStringSubmatch(rest)
		if got == nil {
			continue
		}
		kind, num := f.kind, 0.0
		if kind == api.TokNumber {
			num, _ = strconv.ParseFloat(got[0], 64)
		}
		if kind == api.TokName && wordIs.MatchString(got[1]) {
			kind = api.TokWord
		}
		return m.add(kind, got[1], num, len(got[0]))
	}
	return m.fault(140, m.at)
}

// scanned is the model's Scan.
func scanned(s string) ([]api.Token, api.Fault) {
	if len(s) > 1048576 {
		return nil, api.Fault{Code: 142}
	}
	m := &scanner{s: s}
	for {
		var f api.Fault
		if n := len(m.open); n > 0 && !m.open[n-1].into {
			f = m.string()
		} else {
			m.at += len(blanksAre.FindString(m.s[m.at:]))
			if m.at == len(s) {
				if n > 0 {
					return nil, m.fault(141, m.open[n-1].quote)
				}
				m.add(api.TokEnd, "", 0, 0)
				return m.out, f
			}
			f = m.code()
		}
		if f.Code != 0 {
			return nil, f
		}
	}
}

// mayStand tells whether a token by itself may be one that a text has.
func mayStand(t api.Token) bool {
	if t.Kind != api.TokNumber && math.Float64bits(t.Num) != 0 {
		return false
	}
	switch t.Kind {
	case api.TokName:
		return nameIs.MatchString(t.Text) && !wordIs.MatchString(t.Text)
	case api.TokField:
		return plainIs.MatchString(t.Text)
	case api.TokVar:
		return nameIs.MatchString(t.Text)
	case api.TokWord:
		return wordIs.MatchString(t.Text)
	case api.TokFormat:
		return formatIs.MatchString(t.Text)
	case api.TokSign:
		return strings.Contains(" != == //= // |= += -= *= /= %= <= >= .. ?// < > = + - * / % | , . [ ] ( ) { } : ; ? $ ", " "+t.Text+" ") && t.Text != "" && t.Text != " "
	case api.TokText:
		return t.Text != "" && utf8.ValidString(t.Text)
	case api.TokNumber:
		return t.Text == "" && t.Num >= 0 && !math.Signbit(t.Num)
	}
	return t.Text == "" && t.Kind >= 0 && t.Kind <= 12
}

// mayBe tells whether some text has these tokens, without an end.
func mayBe(l []api.Token) bool {
	var open []int // the parentheses that are open in what is interpolated
	quoted := false
	for i, t := range l {
		if !mayStand(t) || t.Kind == api.TokEnd {
			return false
		}
		n := len(open) - 1
		if inString := t.Kind == api.TokText || t.Kind == api.TokInto || t.Kind == api.TokClose; inString != quoted {
			return false
		}
		switch t.Kind {
		case api.TokOpen:
			quoted = true
		case api.TokText:
			if l[i-1].Kind == api.TokText {
				return false
			}
		case api.TokInto:
			open, quoted = append(open, 0), false
		case api.TokClose:
			quoted = false
		case api.TokBack:
			if n < 0 || open[n] > 0 {
				return false
			}
			open, quoted = open[:n], true
		case api.TokSign:
			if n >= 0 && t.Text == "(" {
				open[n]++
			}
			if n >= 0 && t.Text == ")" {
				open[n]--
				if open[n] < 0 {
					return false
				}
			}
		}
	}
	return !quoted && len(open) == 0 && len(l) <= 65536
}

// joined is the model's Join.
func joined(l []api.Token) (string, api.Errno) {
	if n := len(l) - 1; n >= 0 && l[n].Kind == api.TokEnd && mayStand(l[n]) {
		l = l[:n]
	}
	if !mayBe(l) {
		return "", 2
	}
	out := ""
	for i, t := range l {
		if i > 0 && !strings.Contains("open text into back", kindName(l[i-1].Kind)) && t.Kind != api.TokBack {
			out += " "
		}
		switch t.Kind {
		case api.TokField:
			out += "."
		case api.TokVar:
			out += "$"
		}
		switch kindName(t.Kind) {
		case "open", "close":
			out += `"`
		case "into":
			out += `\(`
		case "back":
			out += ")"
		case "text":
			for i := range len(t.Text) {
				switch c := t.Text[i]; {
				case c == 10:
					out += `\n`
				case c < 32 || c == 127:
					out += fmt.Sprintf(`\u%04x`, c)
				case c == 34 || c == 92:
					out += `\` + t.Text[i:i+1]
				default:
					out += t.Text[i : i+1]
				}
			}
		case "number":
			out += numberText(t.Num)
		default:
			out += t.Text
		}
	}
	return out, 0
}

func kindName(k api.TokenKind) string {
	return strings.Split("end name field var word number format sign open text into back close", " ")[k]
}

// numberText is right for the numbers of the tests.
func numberText(f float64) string {
	if math.IsInf(f, 1) {
		return "1e1000"
	}
	if f != 0 && f < 1e-4 || f >= 1e17 {
		return strconv.FormatFloat(f, 'e', -1, 64)
	}
	return strconv.FormatFloat(f, 'f', -1, 64)
}

// bare answers tokens without spots and without an end.
func bare(l []api.Token) []api.Token {
	var out []api.Token
	for _, t := range l {
		if t.Kind != api.TokEnd {
			t.At = api.Spot{}
			out = append(out, t)
		}
	}
	return out
}

func sameTokens(a, b []api.Token) bool {
	if len(a) != len(b) {
		return false
	}
	for i := range a {
		if a[i] != b[i] || math.Float64bits(a[i].Num) != math.Float64bits(b[i].Num) {
			return false
		}
	}
	return true
}

func cut(s string) string {
	const most = 200
	if len(s) > most {
		return s[:most] + ".."
	}
	return s
}

// checkScan holds Scan to the model, and Join to it of what Scan gave.
func checkScan(t *testing.T, s string) {
	t.Helper()
	l, f := lexer.Scan(s)
	want, fault := scanned(s)
	if f != fault || !sameTokens(l, want) {
		t.Fatalf("Scan(%q) = %v, %v, want %v, %v", cut(s), l, f, want, fault)
	}
	if f.Code == 0 {
		checkJoin(t, l)
		checkJoin(t, bare(l))
	}
}

// checkJoin holds Join to the model, and what Scan makes of that to the tokens.
func checkJoin(t *testing.T, l []api.Token) {
	t.Helper()
	s, e := lexer.Join(l)
	want, refused := joined(l)
	if s != want || e != refused {
		t.Fatalf("Join(%v) = %q, %d, want %q, %d", l, s, e, want, refused)
	}
	if e != 0 {
		return
	}
	again, f := lexer.Scan(s)
	if f.Code != 0 || !sameTokens(bare(again), bare(l)) {
		t.Fatalf("Scan(Join(%v)) = %v, %v", l, again, f)
	}
}
