package reader_test

import (
	"math"
	"math/rand"
	"regexp"
	"strconv"
	"strings"
	"testing"
	"unicode/utf16"
	"unsafe"

	"colander/api"
	"colander/reader"
	"colander/sample"
	"colander/value"
)

// What the tests of several packages have in common.
var (
	num, str, arr, obj   = sample.Num, sample.Str, sample.Arr, sample.Obj
	same, sameRow, shown = sample.Same, sample.SameRow, sample.Shown
)

// How the tests make values.

var (
	null = api.Value{Kind: api.Null}
	no   = api.Value{Kind: api.False}
	yes  = api.Value{Kind: api.True}
	nan  = num(math.NaN())
)

func cut(s string) string {
	if len(s) > 200 {
		return s[:100] + " .. " + s[len(s)-100:]
	}
	return s
}

// within tells whether the bytes of a text stand in another one's memory.
func within(s, whole string) bool {
	if s == "" || whole == "" {
		return false
	}
	at := uintptr(unsafe.Pointer(unsafe.StringData(s)))
	from := uintptr(unsafe.Pointer(unsafe.StringData(whole)))
	return at >= from && at < from+uintptr(len(whole))
}

// eachStr gives all strings and keys of a value.
func eachStr(v api.Value, do func(string)) {
	do(v.Str)
	for _, k := range v.Keys {
		do(k)
	}
	for _, x := range v.List {
		eachStr(x, do)
	}
}

// someText answers a text of a few pieces, bad ones among them, if they may be.
func someText(r *rand.Rand, bad bool) string {
	pieces := []string{"a", "b", "A", " ", "\"", "\\", "/", "\n", "\t", "\b", "\f", "\r", "\x00", "\x1f", "\x7f", "\u00e9", "\u20ac", "\U0001f600", "\ufeff", "\ufffd", "u00e9", "\\u"}
	if bad {
		pieces = append(pieces, "\xff", "\xe2\x82", "\xed\xa0\x80", "\x80")
	}
	out := ""
	for range r.Intn(4) {
		out += pieces[r.Intn(len(pieces))]
	}
	return out
}

// somewhat answers any value of at most so many levels within it, without infinities and NaN.
func somewhat(r *rand.Rand, levels int) api.Value {
	n := 7
	if levels == 0 {
		n = 5
	}
	switch api.Kind(r.Intn(n)) {
	case api.False:
		return no
	case api.True:
		return yes
	case api.Number:
		return num([]float64{0, math.Copysign(0, -1), 1, -1, 0.5, 1e300, -5e-324, math.MaxFloat64, 1e-7, 123456789012, r.NormFloat64(), float64(r.Intn(100))}[r.Intn(12)])
	case api.String:
		return str(someText(r, false))
	case api.Array:
		out := arr()
		for range r.Intn(4) {
			out.List = append(out.List, somewhat(r, levels-1))
		}
		return out
	case api.Object:
		out := obj("")
		for range r.Intn(4) {
			out = value.Put(out, someText(r, false), somewhat(r, levels-1))
		}
		return out
	}
	return null
}

// The tests' own model of what the chapter says: a machine with a stack of its own, whose strings and words are told by patterns.

var (
	stringBegins = regexp.MustCompile(`^(?s:"(?:[^"\\]|\\(?:["\\/bfnrt]|u[0-9a-fA-F]{4}))*)`)
	escapes      = regexp.MustCompile(`\\u[dD][89abAB][0-9a-fA-F]{2}\\u[dD][c-fC-F][0-9a-fA-F]{2}|\\u[0-9a-fA-F]{4}|\\.`)
	wordBegins   = regexp.MustCompile(`^[A-Za-z0-9_+.-]+`)
	numbers      = regexp.MustCompile(`^[+-]?(?:[0-9]+\.?[0-9]*|\.[0-9]+)(?:[eE][+-]?[0-9]+)?$`)
)

func faultAt(code api.Errno, s string, off int) api.Fault {
	return api.Fault{Code: code, At: sample.SpotOf(s, off)}
}

// blanksTo answers the byte behind the blanks from byte off on.
func blanksTo(s string, off int) int {
	for off < len(s) && (strings.IndexByte("\t\n\r ", s[off]) >= 0 || off < 3 && strings.HasPrefix(s, "\xef\xbb\xbf")) {
		off++
	}
	return off
}

// saidBy answers what stands between a string's quotes.
func saidBy(body string) string {
	plain := escapes.ReplaceAllStringFunc(body, func(e string) string {
		switch {
		case len(e) == 12:
			return string(utf16.DecodeRune(unitOf(e[2:6]), unitOf(e[8:12])))
		case len(e) == 6:
			return string(unitOf(e[2:6])) // a half alone becomes the replacement so
		}
		if i := strings.IndexByte("bfnrt", e[1]); i >= 0 {
			return "\b\f\n\r\t"[i : i+1]
		}
		return e[1:]
	})
	return string([]rune(plain))
}

func unitOf(digits string) rune {
	n, err := strconv.ParseInt(digits, 16, 32)
	if err != nil {
		panic(err)
	}
	return rune(n)
}

// wordOf answers the value that a word is.
func wordOf(word string) (api.Value, bool) {
	switch word {
	case "null":
		return null, true
	case "true":
		return yes, true
	case "false":
		return no, true
	case "nan":
		return nan, true
	}
	f, _ := strconv.ParseFloat(word, 64)
	return num(f), numbers.MatchString(word)
}

// What may stand next.
const (
	aValue     = iota
	firstValue // or the array's end
	aKey
	firstKey // or the object's end
	aColon
	aComma // or the end
)

// nest is an array or an object that is not closed yet, and the key ahead of the value that comes next.
type nest struct {
	v   api.Value
	key string
}

// model is a text that is read.
type model struct {
	s     string
	at    int
	want  int
	nests []nest
	top   api.Value
	done  bool
}

// nextOf is P4.3's One.
func nextOf(s string, off int) (api.Value, int, bool, api.Fault) {
	if len(s) > 1048576 {
		return null, 0, false, api.Fault{Code: 45}
	}
	start := blanksTo(s, max(0, min(off, len(s))))
	if start == len(s) {
		return null, len(s), false, api.Fault{}
	}
	m := model{s: s, at: start}
	for !m.done {
		if f := m.step(); f.Code != 0 {
			return null, f.At.Off, false, f
		}
	}
	nodes, bytes := sizeOf(m.top)
	if nodes > 65536 || bytes > 1048576 {
		return null, start, false, faultAt(45, s, start)
	}
	return m.top, m.at, true, api.Fault{}
}

func sizeOf(v api.Value) (int, int) {
	nodes, bytes := 1, len(v.Str)
	for _, k := range v.Keys {
		bytes += len(k)
	}
	for _, x := range v.List {
		n, b := sizeOf(x)
		nodes, bytes = nodes+n, bytes+b
	}
	return nodes, bytes
}

// step reads the next part.
func (m *model) step() api.Fault {
	m.at = blanksTo(m.s, m.at)
	if m.at >= len(m.s) {
		return faultAt(43, m.s, len(m.s))
	}
	c := m.s[m.at]
	switch {
	case (m.want == firstValue || m.want == aComma && m.isIn(api.Array)) && c == ']', (m.want == firstKey || m.want == aComma && m.isIn(api.Object)) && c == '}':
		last := m.nests[len(m.nests)-1]
		m.nests = m.nests[:len(m.nests)-1]
		m.at++
		m.put(last.v)
	case m.want == aComma && c == ',':
		m.at++
		m.want = aKey
		if m.isIn(api.Array) {
			m.want = aValue
		}
	case m.want == aColon && c == ':':
		m.at++
		m.want = aValue
	case (m.want == aKey || m.want == firstKey) && c == '"':
		key, f := m.str()
		m.nests[len(m.nests)-1].key = key
		m.want = aColon
		return f
	case m.want == aValue || m.want == firstValue:
		return m.value(c)
	default:
		return faultAt(41, m.s, m.at)
	}
	return api.Fault{}
}

func (m *model) isIn(kind api.Kind) bool {
	return m.nests[len(m.nests)-1].v.Kind == kind
}

func (m *model) value(c byte) api.Fault {
	word := wordBegins.FindString(m.s[m.at:])
	if word == "" && c != '"' && c != '[' && c != '{' {
		return faultAt(41, m.s, m.at)
	}
	if len(m.nests) == 10000 {
		return faultAt(44, m.s, m.at)
	}
	switch c {
	case '[':
		m.nests = append(m.nests, nest{v: arr()})
		m.at, m.want = m.at+1, firstValue
	case '{':
		m.nests = append(m.nests, nest{v: obj("")})
		m.at, m.want = m.at+1, firstKey
	case '"':
		s, f := m.str()
		if f.Code != 0 {
			return f
		}
		m.put(str(s))
	default:
		v, ok := wordOf(word)
		if !ok {
			return faultAt(40, m.s, m.at)
		}
		m.at += len(word)
		m.put(v)
	}
	return api.Fault{}
}

// str reads a string; what is good of it is told by the pattern, and what stands behind that tells the fault.
func (m *model) str() (string, api.Fault) {
	good := stringBegins.FindString(m.s[m.at:])
	m.at += len(good)
	switch {
	case m.at == len(m.s):
		return "", faultAt(43, m.s, m.at)
	case m.s[m.at] != '"':
		return "", faultAt(42, m.s, m.at)
	}
	m.at++
	return saidBy(good[1:]), api.Fault{}
}

// put puts a value where it belongs.
func (m *model) put(v api.Value) {
	m.want = aComma
	if len(m.nests) == 0 {
		m.top, m.done = v, true
		return
	}
	n := &m.nests[len(m.nests)-1]
	if n.v.Kind == api.Object {
		for i, k := range n.v.Keys {
			if k == n.key {
				n.v.List[i] = v
				return
			}
		}
		n.v.Keys = append(n.v.Keys, n.key)
	}
	n.v.List = append(n.v.List, v)
}

// allOf is P4.4's All.
func allOf(s string) ([]api.Value, api.Fault) {
	var out []api.Value
	for at := 0; ; {
		v, end, ok, f := nextOf(s, at)
		if !ok {
			return out, f
		}
		out, at = append(out, v), end
	}
}

// singleOf is P4.4's Single.
func singleOf(s string) (api.Value, api.Fault) {
	v, end, ok, f := nextOf(s, 0)
	if f.Code != 0 {
		return null, f
	}
	if !ok {
		return null, faultAt(43, s, len(s))
	}
	if end = blanksTo(s, end); end < len(s) {
		return null, faultAt(41, s, end)
	}
	return v, api.Fault{}
}

// checkText holds All and Single of a text, and One at its beginning, against the model.
func checkText(t *testing.T, s string) {
	t.Helper()
	want, wantFault := allOf(s)
	if got, f := reader.All(s); f != wantFault || !sameRow(got, want) {
		t.Fatalf("All(%q) = %s, %v, want %s, %v", cut(s), shown(got...), f, shown(want...), wantFault)
	}
	one, wantFault := singleOf(s)
	if got, f := reader.Single(s); f != wantFault || !same(got, one) {
		t.Fatalf("Single(%q) = %s, %v, want %s, %v", cut(s), shown(got), f, shown(one), wantFault)
	}
	checkOne(t, s, 0)
}

func checkOne(t *testing.T, s string, off int) {
	t.Helper()
	want, wantEnd, wantOk, wantFault := nextOf(s, off)
	if v, end, ok, f := reader.One(s, off); !same(v, want) || end != wantEnd || ok != wantOk || f != wantFault {
		t.Fatalf("One(%q, %d) = %s, %d, %v, %v, want %s, %d, %v, %v", cut(s), off, shown(v), end, ok, f, shown(want), wantEnd, wantOk, wantFault)
	}
}

// checkPlaces holds One at each byte of a text, and beside it, against the model.
func checkPlaces(t *testing.T, s string) {
	t.Helper()
	checkText(t, s)
	for off := -1; off <= len(s)+1; off++ {
		checkOne(t, s, off)
	}
	checkOne(t, s, math.MinInt)
	checkOne(t, s, math.MaxInt)
}
