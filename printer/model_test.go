package printer_test

import (
	"fmt"
	"maps"
	"math"
	"math/rand"
	"slices"
	"strings"
	"testing"
	"unicode/utf16"

	"colander/api"
	"colander/number"
	"colander/printer"
	"colander/sample"
)

// What the tests of several packages have in common.
var (
	num, str, arr, obj = sample.Num, sample.Str, sample.Arr, sample.Obj
	many               = sample.Many
	same               = sample.Same
	apart              = sample.Apart
)

// How the tests make values.

var (
	null  = api.Value{Kind: api.Null}
	no    = api.Value{Kind: api.False}
	yes   = api.Value{Kind: api.True}
	nan   = num(math.NaN())
	minus = num(math.Copysign(0, -1))
	inf   = num(math.Inf(1))
)

// nested answers v within n arrays, or objects, or both by turns.
func nested(v api.Value, n int, arrays, objects bool) api.Value {
	for i := range n {
		if arrays && (!objects || i%2 == 0) {
			v = arr(v)
		} else {
			v = obj("k", v)
		}
	}
	return v
}

// samples are right values of all kinds, the edges among them.
func samples() []api.Value {
	return []api.Value{
		null, no, yes, num(0), minus, num(1), num(-1.5), num(1e17), num(1e-5), num(math.MaxFloat64), num(5e-324), nan, inf, num(math.Inf(-1)),
		str(""), str("a b"), str("\"\\/\b\f\n\r\t\x00\x1f\x7f\u0080é€\uffff\U00010000\U0001f600\U0010ffff"), str("[1, {\"a\": 2}]"), str("\x1b[0m"), str("null"), str(": , "), str("\xef\xbb\xbf"),
		arr(), arr(null), arr(arr()), arr(arr(arr())), arr(arr(), arr()), arr(num(1), num(2)), arr(obj("")), arr(obj(""), obj("")), arr(arr(num(1)), num(2), arr(num(3), num(4))), arr(null, no, yes, nan, inf, str("x"), arr(), obj("")),
		obj(""), obj("a", null), obj("_", yes), obj("b a", num(1), num(2)), obj("a b", num(1), num(2)), obj("a", obj("")), obj("a", arr()), obj("a", obj("c b", arr(num(1)), obj("_", no))),
		obj("b a B A é z aa _ 10 9 \U0001f600 \uffff \x7f", num(1), num(2), num(3), num(4), num(5), num(6), num(7), num(8), num(9), num(10), num(11), num(12), num(13)),
		obj("\x01 \" \\ \x00", str("\x01"), str("\""), str("\\"), str("\x00")), obj("null", null), obj("y x", obj("b a", arr(obj("d c", null, null)), no), arr(obj("f e", null, yes))),
		nested(num(1), 30, true, false), nested(str("é"), 30, false, true), nested(obj("b a", null, null), 30, true, true),
	}
}

// someText answers a text by chance, with the edges of what is escaped among its points.
func someText(r *rand.Rand) string {
	points := []rune{'a', 'b', ' ', '"', '\\', '/', 0, '\b', '\t', '\n', '\v', '\f', '\r', 31, '~', 127, 128, 255, 256, 2047, 2048, 4096, 0xd7ff, 0xe000, 0xfeff, 0xfffd, 0xffff, 0x10000, 0x103ff, 0x10400, 0x1f600, 0x10ffff}
	out := ""
	for range r.Intn(5) {
		out += string(points[r.Intn(len(points))])
	}
	return out
}

func somewhat(r *rand.Rand, levels int) api.Value {
	kinds := 8
	if levels == 0 {
		kinds = 5
	}
	switch r.Intn(kinds) {
	case 0:
		return null
	case 1:
		return yes
	case 2:
		return no
	case 3:
		return num(math.Ldexp(float64(r.Intn(41)-20), r.Intn(80)-40))
	case 4:
		return str(someText(r))
	case 5, 6:
		v := arr()
		for range r.Intn(4) {
			v.List = append(v.List, somewhat(r, levels-1))
		}
		return v
	}
	v := obj("")
	for range r.Intn(5) {
		if key := someText(r); !slices.Contains(v.Keys, key) {
			v.Keys = append(v.Keys, key)
			v.List = append(v.List, somewhat(r, levels-1))
		}
	}
	return v
}

// styles are all styles that there are.
func styles() []api.Style {
	var out []api.Style
	for i := range 128 {
		out = append(out, api.Style{Indent: i & 7, Tab: i&8 > 0, Sort: i&16 > 0, Ascii: i&32 > 0, Colour: i&64 > 0})
	}
	return out
}

// How the tests hold values against each other.

// cut answers a text, of a long one its beginning.
func cut(s string) string {
	return fmt.Sprintf("%.300q", s)
}

// The tests' own model of what the chapter says: a row of tokens at first, then what stands between them, told by the tokens alone.

// piece is a token; its role is one of ( ) , : for signs, k for keys, v for values.
type piece struct {
	role   byte
	text   string
	colour string
}

// piecesOf answers the tokens of P5.1.
func piecesOf(v api.Value, s api.Style) []piece {
	switch v.Kind {
	case api.Null:
		return []piece{{'v', "null", "1;30"}}
	case api.False:
		return []piece{{'v', "false", "0;39"}}
	case api.True:
		return []piece{{'v', "true", "0;39"}}
	case api.Number:
		return []piece{{'v', number.Text(v.Num), "0;39"}}
	case api.String:
		return []piece{{'v', quoted(v.Str, s.Ascii), "0;32"}}
	case api.Array:
		out := []piece{{'(', "[", "1;39"}}
		for i, x := range v.List {
			if i > 0 {
				out = append(out, piece{',', ",", "1;39"})
			}
			out = append(out, piecesOf(x, s)...)
		}
		return append(out, piece{')', "]", "1;39"})
	}
	if s.Sort {
		v = sortedOf(v)
	}
	out := []piece{{'(', "{", "1;39"}}
	for i, x := range v.List {
		if i > 0 {
			out = append(out, piece{',', ",", "1;39"})
		}
		out = append(out, piece{'k', quoted(v.Keys[i], s.Ascii), "34;1"}, piece{':', ":", "1;39"})
		out = append(out, piecesOf(x, s)...)
	}
	return append(out, piece{')', "}", "1;39"})
}

// sortedOf answers v with the keys of each object sorted.
func sortedOf(v api.Value) api.Value {
	out := v
	out.List = nil
	if v.Kind != api.Object {
		for _, x := range v.List {
			out.List = append(out.List, sortedOf(x))
		}
		return out
	}
	byKey := map[string]api.Value{}
	for i, k := range v.Keys {
		byKey[k] = v.List[i]
	}
	out.Keys = slices.Sorted(maps.Keys(byKey))
	for _, k := range out.Keys {
		out.List = append(out.List, sortedOf(byKey[k]))
	}
	return out
}

// quoted is a string's text, point by point.
func quoted(s string, ascii bool) string {
	out := `"`
	for _, r := range s {
		at := strings.IndexRune("\"\\\b\f\n\r\t", r)
		switch {
		case at >= 0:
			out += `\` + `"\bfnrt`[at:at+1]
		case r < 32 || r == 127:
			out += fmt.Sprintf(`\u%04x`, r)
		case r > 127 && ascii:
			for _, unit := range utf16.Encode([]rune{r}) {
				out += fmt.Sprintf(`\u%04x`, unit)
			}
		default:
			out += string(r)
		}
	}
	return out + `"`
}

// ahead answers what stands ahead of a token, behind another one, with so many levels around it.
func ahead(role, before byte, levels int, s api.Style) string {
	if !s.Tab && s.Indent == 0 {
		return ""
	}
	switch {
	case before == ':':
		return " "
	case before == ',', before == '(' && role != ')', before > 0 && before != '(' && role == ')':
		if s.Tab {
			return "\n" + strings.Repeat("\t", levels)
		}
		return "\n" + strings.Repeat(" ", levels*s.Indent)
	}
	return ""
}

// printOf is P5.1.
func printOf(v api.Value, s api.Style) (string, api.Errno) {
	if s.Indent < 0 || s.Indent > 7 {
		return "", api.ErrArg
	}
	out, levels, before := strings.Builder{}, 0, byte(0)
	for _, p := range piecesOf(v, s) {
		if p.role == ')' {
			levels--
		}
		out.WriteString(ahead(p.role, before, levels, s))
		if s.Colour {
			p.text = "\x1b[" + p.colour + "m" + p.text + "\x1b[0m"
		}
		out.WriteString(p.text)
		if p.role == '(' {
			levels++
		}
		before = p.role
	}
	if out.Len() > api.MaxPrint {
		return "", api.ErrMany
	}
	return out.String(), api.OK
}

// printed answers what Print does, which must be no refusal.
func printed(t *testing.T, v api.Value, s api.Style) string {
	t.Helper()
	text, e := printer.Print(v, s)
	if e != api.OK {
		t.Fatalf("Print in %+v: error %d", s, e)
	}
	return text
}

// checkPrint holds Print against the model.
func checkPrint(t *testing.T, v api.Value, s api.Style) {
	t.Helper()
	got, e := printer.Print(v, s)
	want, wantE := printOf(v, s)
	if got != want || e != wantE {
		t.Fatalf("Print in %+v = %s, %d, want %s, %d", s, cut(got), e, cut(want), wantE)
	}
}
