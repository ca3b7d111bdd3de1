package stream_test

import (
	"math"
	"math/rand"
	"regexp"
	"testing"
	"unsafe"

	"colander/api"
	"colander/reader"
	"colander/sample"
	"colander/stream"
	"colander/value"
)

// What the tests of several packages have in common.
var (
	num, str, arr, obj   = sample.Num, sample.Str, sample.Arr, sample.Obj
	vals, val            = sample.All, sample.One
	same, sameRow, shown = sample.Same, sample.SameRow, sample.Shown
	apart, apartRow      = sample.Apart, sample.ApartRow
)

// How the tests make values.

var (
	null  = api.Value{Kind: api.Null}
	no    = api.Value{Kind: api.False}
	yes   = api.Value{Kind: api.True}
	nan   = num(math.NaN())
	minus = num(math.Copysign(0, -1))
	inf   = num(math.Inf(1))
)

// nested answers v within n arrays and objects, as the pattern of a and o says, again and again.
func nested(v api.Value, n int, pattern string) api.Value {
	for i := range n {
		if pattern[i%len(pattern)] == 'a' {
			v = arr(v)
		} else {
			v = obj("k", v)
		}
	}
	return v
}

// samples are values of all kinds, the edges among them, without NaN.
func samples() []api.Value {
	out := vals(`null false true 0 -0 1 -1.5 1e300 5e-324 "" "a" "é" "\u0000" "\ud83d\ude00"
		[] {} [[]] [{}] {"a":[]} {"a":{}} [1] [1,2] [1,[2]] [[1],2] [[1],[2]] [[[1]]] [[],[]] [[],{},[]] [0,"0",{"0":0}]
		{"a":1} {"b":1,"a":2} {"":null} {"":{"":""}} {"a":[],"b":{"c":null}} {"a":[1,{"b":[2,3]}],"c":[[4]]} {"a":{"a":{"a":{}}}} {"0":[0]} {"é":"é"}
		[null,false,true] [{"a":1},{"a":2}] [[1,2],[3,4],[]] {"z":1,"y":[2],"x":{"w":3}}`)
	return append(out, inf, num(math.Inf(-1)), arr(inf), arr(minus), nested(minus, 20, "a"), nested(yes, 20, "o"), nested(arr(), 21, "ao"), nested(obj(""), 21, "aao"))
}

// somewhat answers any value of at most so many levels within it.
func somewhat(r *rand.Rand, levels int) api.Value {
	n := 7
	if levels == 0 {
		n = 5
	}
	switch api.Kind(r.Intn(n)) {
	case api.False:
		return no
	case api.True:
		return yes
	case api.Number:
		return num(float64(r.Intn(4)) - 1)
	case api.String:
		return str([]string{"", "a", "b", "0", "\u00e9", "\u001e"}[r.Intn(6)])
	case api.Array:
		out := arr()
		for range r.Intn(4) {
			out.List = append(out.List, somewhat(r, levels-1))
		}
		return out
	case api.Object:
		out := obj("")
		for range r.Intn(4) {
			out = value.Put(out, []string{"", "a", "b", "0", "\u00e9"}[r.Intn(5)], somewhat(r, levels-1))
		}
		return out
	}
	return null
}

// How the tests hold values against each other.

func cut(s string) string {
	if len(s) > 200 {
		return s[:100] + " .. " + s[len(s)-100:]
	}
	return s
}

// spoil changes all that v's lists hold, and the room behind it.
func spoil(v api.Value) {
	keys := v.Keys[:cap(v.Keys)]
	for i := range keys {
		keys[i] = "spoilt"
	}
	for _, x := range v.List {
		spoil(x)
	}
	spoilRow(v.List)
}

func spoilRow(l []api.Value) {
	l = l[:cap(l)]
	for i := range l {
		l[i] = str("spoilt")
	}
}

// within tells whether the bytes of a text stand in another one's memory.
func within(s, whole string) bool {
	if s == "" || whole == "" {
		return false
	}
	at := uintptr(unsafe.Pointer(unsafe.StringData(s)))
	from := uintptr(unsafe.Pointer(unsafe.StringData(whole)))
	return at >= from && at < from+uintptr(len(whole))
}

// eachStr gives all strings and keys of a value.
func eachStr(v api.Value, do func(string)) {
	do(v.Str)
	for _, k := range v.Keys {
		do(k)
	}
	for _, x := range v.List {
		eachStr(x, do)
	}
}

// shares tells whether strings of a stand in the memory of strings of b.
func shares(a, b []api.Value) bool {
	found := false
	eachStr(arr(a...), func(s string) {
		eachStr(arr(b...), func(whole string) {
			found = found || within(s, whole)
		})
	})
	return found
}

// The tests' own model of what the chapter says.

// pathOf, leafAt and endAt make events.
func pathOf(parts ...any) []api.Value {
	var out []api.Value
	for _, p := range parts {
		switch p := p.(type) {
		case int:
			out = append(out, num(float64(p)))
		case string:
			out = append(out, str(p))
		}
	}
	return out
}

func leafAt(path []api.Value, v api.Value) api.Value { return arr(arr(path...), v) }

func endAt(path []api.Value) api.Value { return arr(arr(path...)) }

func joined(path []api.Value, more ...api.Value) []api.Value {
	return append(append([]api.Value(nil), path...), more...)
}

// part is a part of a value of which keys may come again.
type part struct {
	key api.Value
	of  tree
}

// tree is a value whose parts stand in a row, those of a key that comes again, too. A leaf has no parts.
type tree struct {
	leaf  api.Value
	parts []part
}

// treeOf answers a value as a tree.
func treeOf(v api.Value) tree {
	out := tree{leaf: v}
	for i, x := range v.List {
		key := num(float64(i))
		if v.Kind == api.Object {
			key = str(v.Keys[i])
		}
		out.parts = append(out.parts, part{key, treeOf(x)})
	}
	return out
}

// events is P6.1, word by word: the events of the parts, each path with the part's key ahead, then the path of the last part alone.
func (t tree) events() []api.Value {
	if len(t.parts) == 0 {
		return []api.Value{leafAt(nil, t.leaf)}
	}
	var out []api.Value
	for _, p := range t.parts {
		for _, e := range p.of.events() {
			path := joined([]api.Value{p.key}, e.List[0].List...)
			out = append(out, arr(joined([]api.Value{arr(path...)}, e.List[1:]...)...))
		}
	}
	last := out[len(out)-1].List[0].List[0]
	return append(out, endAt([]api.Value{last}))
}

// value is what a tree is, if a later part takes the place of the first one of its key.
func (t tree) value() api.Value {
	if len(t.parts) == 0 {
		return t.leaf
	}
	if t.parts[0].key.Kind == api.Number {
		out := arr()
		for _, p := range t.parts {
			out.List = append(out.List, p.of.value())
		}
		return out
	}
	out := obj("")
	for _, p := range t.parts {
		out = value.Put(out, p.key.Str, p.of.value())
	}
	return out
}

// someTree answers any tree of at most so many levels within it.
func someTree(r *rand.Rand, levels int) tree {
	if levels == 0 || r.Intn(3) == 0 {
		leaves := []api.Value{null, yes, num(1), str("a"), arr(), obj("")}
		return tree{leaf: leaves[r.Intn(len(leaves))]}
	}
	var out tree
	isArray := r.Intn(2) == 0
	for i := range 1 + r.Intn(4) {
		key := str([]string{"", "a", "b"}[r.Intn(3)])
		if isArray {
			key = num(float64(i))
		}
		out.parts = append(out.parts, part{key, someTree(r, levels-1)})
	}
	return out
}

// isEvent is what the chapter says of an event.
func isEvent(e api.Value) bool {
	if e.Kind != api.Array || len(e.List) != 1 && len(e.List) != 2 {
		return false
	}
	if len(e.List) == 2 && len(e.List[1].List) > 0 {
		return false
	}
	path := e.List[0]
	for _, p := range path.List {
		if p.Kind != api.Number && p.Kind != api.String {
			return false
		}
	}
	return path.Kind == api.Array && len(path.List) <= 9999
}

// model reads events from the left, a value at a time, as a grammar of them would.
type model struct {
	l    []api.Value
	at   int
	bad  bool
	done bool // no event is left
}

// backOf is P6.2's Back.
func backOf(l []api.Value) ([]api.Value, bool) {
	for _, e := range l {
		if !isEvent(e) {
			return nil, false
		}
	}
	m := model{l: l}
	var out []api.Value
	for m.at < len(l) {
		t := m.tree(nil)
		if m.bad {
			return nil, false
		}
		if !m.done {
			out = append(out, t.value())
		}
	}
	return out, true
}

// next answers the next event's path, its leaf, and whether it has one; the path must begin with a given one.
func (m *model) next(ahead []api.Value) ([]api.Value, api.Value, bool) {
	m.done = m.at == len(m.l)
	if m.done {
		return nil, null, false
	}
	e := m.l[m.at].List
	path := e[0].List
	m.bad = len(path) < len(ahead) || !sameRow(path[:len(ahead)], ahead)
	if len(e) == 1 {
		return path, null, false
	}
	return path, e[1], true
}

// tree reads what stands at a path.
func (m *model) tree(here []api.Value) tree {
	path, leaf, isLeaf := m.next(here)
	if m.bad || m.done {
		return tree{}
	}
	if len(path) == len(here) {
		m.at++
		m.bad = !isLeaf
		return tree{leaf: leaf}
	}
	var out tree
	kind := path[len(here)].Kind
	for {
		key := path[len(here)]
		if key.Kind != kind || kind == api.Number && !same(key, num(float64(len(out.parts)))) {
			m.bad = true
			return out
		}
		below := joined(here, key)
		of := m.tree(below)
		if m.bad || m.done {
			return out
		}
		out.parts = append(out.parts, part{key, of})
		path, _, isLeaf = m.next(here)
		if m.bad || m.done {
			return out
		}
		if !isLeaf && sameRow(path, below) {
			m.at++
			return out
		}
		if len(path) == len(here) {
			m.bad = true
			return out
		}
	}
}

// checkBack holds Back of events against the model.
func checkBack(t *testing.T, l []api.Value) {
	t.Helper()
	want, ok := backOf(l)
	wantErr := api.OK
	if !ok {
		wantErr = 60
	}
	if got, e := stream.Back(l); e != wantErr || !sameRow(got, want) {
		t.Fatalf("Back(%s) = %s, %d, want %s, %d", shown(l...), shown(got...), e, shown(want...), wantErr)
	}
}

// tokens has strings that do not end, too, as the last ones of a text.
var (
	tokens     = regexp.MustCompile(`"(?:[^"\\]|\\(?s:.))*(?:"|\\?\z)|[A-Za-z0-9_+.-]+|[\[\]{}:,]`)
	unfinished = regexp.MustCompile(`^"(?:[^"\\]|\\(?s:.))*\\?$`)
)

// nest is an array or an object whose bracket has not been read yet: the key of its last part, and whether a key comes next.
type nest struct {
	isObject bool
	key      api.Value
	parts    int
	wantKey  bool
}

// readOf is P6.4's Read of a text in which nothing is Large: the parts of what is ahead of All's fault are gone through.
func readOf(s string) ([]api.Value, api.Fault) {
	_, f := reader.All(s)
	if f.Code != api.OK {
		s = s[:f.At.Off]
	}
	var out []api.Value
	var nests []nest
	path := func() []api.Value {
		var p []api.Value
		for _, n := range nests {
			p = append(p, n.key)
		}
		return p
	}
	begin := func() { // of a value
		if len(nests) > 0 && !nests[len(nests)-1].isObject {
			n := &nests[len(nests)-1]
			n.key = num(float64(n.parts))
			n.parts++
		}
	}
	for _, token := range tokens.FindAllString(s, -1) {
		switch c := token[0]; {
		case unfinished.MatchString(token):
		case c == '[' || c == '{':
			begin()
			nests = append(nests, nest{isObject: c == '{', wantKey: c == '{'})
		case c == ']' || c == '}':
			last := nests[len(nests)-1]
			whole := path()
			nests = nests[:len(nests)-1]
			switch {
			case last.parts > 0:
				out = append(out, endAt(whole))
			case c == ']':
				out = append(out, leafAt(path(), arr()))
			default:
				out = append(out, leafAt(path(), obj("")))
			}
		case c == ',':
			nests[len(nests)-1].wantKey = nests[len(nests)-1].isObject
		case c == ':':
		case len(nests) > 0 && nests[len(nests)-1].wantKey:
			n := &nests[len(nests)-1]
			n.key, n.wantKey = val(token), false
			n.parts++
		default:
			begin()
			out = append(out, leafAt(path(), val(token)))
		}
	}
	return out, f
}

// checkRead holds Read of a text against the model, and that what Back gives of it is what All gives.
func checkRead(t *testing.T, s string) {
	t.Helper()
	want, wantFault := readOf(s)
	got, f := stream.Read(s)
	if f != wantFault || !sameRow(got, want) {
		t.Fatalf("Read(%q) = %s, %v, want %s, %v", cut(s), shown(got...), f, shown(want...), wantFault)
	}
	all, _ := reader.All(s)
	if back, e := stream.Back(got); e != api.OK || !sameRow(back, all) {
		t.Fatalf("Back of Read(%q) = %s, %d, want %s", cut(s), shown(back...), e, shown(all...))
	}
}
