package collect_test

import (
	"math"
	"math/rand"
	"strings"
	"testing"
	"unsafe"

	"colander/api"
	"colander/sample"
	"colander/value"
)

// What the tests of several packages have in common.
var (
	num, str, arr, obj, truth = sample.Num, sample.Str, sample.Arr, sample.Obj, sample.Bool
	vals, val                 = sample.All, sample.One
	many, counted, nested     = sample.Many, sample.Counted, sample.Nested
	same, sameRow, shown      = sample.Same, sample.SameRow, sample.Shown
	apart, untouched          = sample.Apart, sample.Untouched
)

// How the tests make values.

var (
	null  = api.Value{Kind: api.Null}
	no    = api.Value{Kind: api.False}
	yes   = api.Value{Kind: api.True}
	nan   = num(math.NaN())
	minus = num(math.Copysign(0, -1))
	inf   = num(math.Inf(1))
)

// shuffled answers an array's values in another order.
func shuffled(v api.Value, r *rand.Rand) api.Value {
	out := arr(append([]api.Value(nil), v.List...)...)
	r.Shuffle(len(out.List), func(i, j int) {
		out.List[i], out.List[j] = out.List[j], out.List[i]
	})
	return out
}

// samples are values of all kinds, the edges among them.
func samples() []api.Value {
	return append(vals(`null false true 0 -0 1 -1 1.5 -0.5 0.5 2 3 nan 1e300
		"" "a" "b" "abc" "bc" "aaa" "é😀z" "😀" [] {} [1] [1,2,3] [3,2,1] [2,3] [0,-0,0] [[]] [[],[]] [[1,2],[3]] [[1],[2]] [[nan],[1,nan]] [null] [nan] [nan,1] [nan,nan]
		["a",{"b":[1]}] ["abc","b"] [1,[2,[3,[4]]]] [[[[]]]] [true,false] {"a":1} {"b":1,"a":2} {"a":2,"b":1} {"a":null} {"":{"a":[1,2]}} {"a":"abc"} {"a":[1,[2,[3]]],"b":[[4]],"c":5} {"a":nan}`),
		inf, num(math.Inf(-1)), nested(yes, 30))
}

// somewhat answers any value of at most so many levels within it, of few numbers, texts and keys, so that values often are the same.
func somewhat(r *rand.Rand, levels int) api.Value {
	n := 10
	if levels == 0 {
		n = 6
	}
	switch r.Intn(n) {
	case 0:
		return []api.Value{null, yes, no, nan}[r.Intn(4)]
	case 1, 2:
		return str([]string{"", "a", "ab", "b", "é😀z"}[r.Intn(5)])
	case 3:
		return []api.Value{minus, num(-1), num(0.5), inf}[r.Intn(4)]
	case 4, 5:
		return num(float64(r.Intn(3)))
	case 6, 7:
		out := obj("")
		for _, i := range r.Perm(3)[:r.Intn(4)] {
			out.Keys = append(out.Keys, []string{"", "a", "é"}[i])
			out.List = append(out.List, somewhat(r, levels-1))
		}
		return out
	}
	return someArray(r, r.Intn(4), levels-1)
}

// someArray answers any array of n values.
func someArray(r *rand.Rand, n, levels int) api.Value {
	out := arr()
	for range n {
		out.List = append(out.List, somewhat(r, levels))
	}
	return out
}

// someKeys answers n keys, of which many are alike, equal but for the sign of 0 or the order of keys, or have NaN in them.
func someKeys(r *rand.Rand, n int) api.Value {
	few := vals(`0 -0 1 nan "a" [nan] [nan,1] [nan,2] [0,nan] [-0,nan,1] [0,1] {"a":0,"b":1} {"b":1,"a":-0} {"a":nan,"b":1} {"b":2,"a":nan} {"b":nan,"a":0} null true`)
	few = few[:1+r.Intn(len(few))]
	out := arr()
	for range n {
		if r.Intn(8) == 0 {
			out.List = append(out.List, somewhat(r, 2))
		} else {
			out.List = append(out.List, few[r.Intn(len(few))])
		}
	}
	return out
}

// withoutNaN answers v with 7 in the place of each NaN.
func withoutNaN(v api.Value) api.Value {
	if v.Num != v.Num {
		v.Num = 7
	}
	v.List = append([]api.Value(nil), v.List...)
	for i, x := range v.List {
		v.List[i] = withoutNaN(x)
	}
	return v
}

// How the tests hold values against each other.

// checkOutcome holds an answer against a value, or against why there is none, if complaint is not empty.
func checkOutcome(t *testing.T, call string, got api.Value, err api.Err, want api.Value, complaint string) {
	t.Helper()
	if wrong := sample.Wrong(got, err, want, complaint); wrong != "" {
		t.Fatalf("%s %s", call, wrong)
	}
}

// call is what all calls with two values are.
type call func(v, x api.Value) (api.Value, api.Err)

// model is what such a call should be: its outcome, and why there is none, or "".
type model func(v, x api.Value) (api.Value, string)

// row is what a call answers, or why it does not, by hand.
type row struct{ v, x, want string }

// checkRows holds a call and its model against rows; what is wanted is a value's text, or, behind an exclamation mark, an error.
func checkRows(t *testing.T, name string, do call, as model, rows []row) {
	t.Helper()
	for _, x := range rows {
		want, complaint := null, ""
		if text, ok := strings.CutPrefix(x.want, "!"); ok {
			complaint = text
		} else {
			want = val(x.want)
		}
		told := name + "(" + x.v + ", " + x.x + ")"
		got, err := do(val(x.v), val(x.x))
		checkOutcome(t, told, got, err, want, complaint)
		if got, by := as(val(x.v), val(x.x)); !same(got, want) || by != complaint {
			t.Errorf("the model of %s: %s %q, want %s %q", told, shown(got), by, shown(want), complaint)
		}
	}
}

// checkAsModel holds a call against its model.
func checkAsModel(t *testing.T, name string, do call, as model, v, x api.Value) {
	t.Helper()
	got, err := do(v, x)
	want, complaint := as(v, x)
	checkOutcome(t, name+"("+shown(v)+", "+shown(x)+")", got, err, want, complaint)
}

// checkSamples holds a call against its model for each two of the samples.
func checkSamples(t *testing.T, name string, do call, as model) {
	t.Helper()
	for _, v := range samples() {
		for _, x := range samples() {
			checkAsModel(t, name, do, as, v, x)
		}
	}
}

// checkOwn holds that an answer shares nothing with what was handed in, nor within itself.
func checkOwn(t *testing.T, call string, answer []api.Value, args ...api.Value) {
	t.Helper()
	wrong := sample.Shared(answer, args, func(text string) any { return unsafe.StringData(text) })
	if wrong != "" {
		t.Fatalf("%s: %s", call, wrong)
	}
}

// The tests' own model of what the chapter says, made by its words and without haste. Each answers a value, and why there is none, or "".

func nameOf(v api.Value) string {
	return []string{"null", "boolean", "boolean", "number", "string", "array", "object"}[v.Kind]
}

func told(v api.Value) string { return nameOf(v) + " (" + value.Short(v) + ")" }

func unlessLarge(v api.Value) (api.Value, string) {
	if value.Large(v) {
		return null, "value is too large"
	}
	return v, ""
}

func lengthOf(v api.Value) (api.Value, string) {
	n := 0
	switch nameOf(v) {
	case "boolean":
		return null, told(v) + " has no length"
	case "number":
		return num(math.Float64frombits(math.Float64bits(v.Num) &^ (1 << 63))), ""
	case "string":
		n = len([]rune(v.Str))
	case "array", "object":
		n = len(v.List)
	}
	return num(float64(n)), ""
}

func keysOf(v api.Value, sorted bool) (api.Value, string) {
	out := arr()
	switch nameOf(v) {
	case "object":
		for _, k := range v.Keys {
			at := len(out.List)
			for i := len(out.List) - 1; sorted && i >= 0 && out.List[i].Str > k; i-- {
				at = i
			}
			out.List = append(out.List[:at:at], append([]api.Value{str(k)}, out.List[at:]...)...)
		}
	case "array":
		out = counted(len(v.List))
	default:
		return null, told(v) + " has no keys"
	}
	return unlessLarge(out)
}

func hasOf(v, key api.Value) (api.Value, string) {
	has := false
	switch nameOf(v) + " " + nameOf(key) {
	case "object string":
		for _, k := range v.Keys {
			has = has || k == key.Str
		}
	case "array number":
		at := math.Trunc(key.Num)
		if at != at {
			at = 0
		}
		for i := range v.List {
			has = has || at == float64(i)
		}
	default:
		return null, "Cannot check whether " + nameOf(v) + " has a " + nameOf(key) + " key"
	}
	return truth(has), ""
}

func containsOf(a, b api.Value) (api.Value, string) {
	if a.Kind != b.Kind {
		return null, told(a) + " and " + told(b) + " cannot have their containment checked"
	}
	return truth(isWithin(b, a)), ""
}

// isWithin tells whether a contains b.
func isWithin(b, a api.Value) bool {
	if a.Kind != b.Kind {
		return false
	}
	within := 0
	switch nameOf(b) {
	case "object":
		for i, k := range b.Keys {
			for j := range a.Keys {
				if a.Keys[j] == k && isWithin(b.List[i], a.List[j]) {
					within++
				}
			}
		}
		return within == len(b.List)
	case "array":
		for _, y := range b.List {
			for _, x := range a.List {
				if isWithin(y, x) {
					within++
					break
				}
			}
		}
		return within == len(b.List)
	case "string":
		for i := range a.Str {
			if strings.HasPrefix(a.Str[i:], b.Str) {
				return true
			}
		}
		return b.Str == ""
	}
	return value.Equal(a, b)
}

// orderOf takes, again and again, of the places that are left the first one whose key no other's is ahead of.
func orderOf(keys []api.Value) []int {
	var out []int
	taken := make([]bool, len(keys))
	for range keys {
		for i := range keys {
			behind := taken[i]
			for j := range keys {
				behind = behind || !taken[j] && value.Compare(keys[j], keys[i]) < 0 && !(value.Compare(keys[i], keys[j]) < 0)
			}
			if !behind {
				out, taken[i] = append(out, i), true
				break
			}
		}
	}
	return out
}

func cannotBe(v, by api.Value, done string) string {
	if v.Kind != api.Array {
		return told(v) + " cannot be " + done + ", as it is not an array"
	}
	if by.Kind != api.Array || len(by.List) != len(v.List) {
		return told(v) + " and " + told(by) + " cannot be " + done + ", as they are not both arrays"
	}
	return ""
}

func sortOf(v, by api.Value) (api.Value, string) {
	if complaint := cannotBe(v, by, "sorted"); complaint != "" {
		return null, complaint
	}
	out := arr()
	for _, at := range orderOf(by.List) {
		out.List = append(out.List, v.List[at])
	}
	return unlessLarge(out)
}

func groupsOf(v, by api.Value) (api.Value, string) {
	if complaint := cannotBe(v, by, "grouped"); complaint != "" {
		return null, complaint
	}
	out := arr()
	var ahead api.Value
	for n, at := range orderOf(by.List) {
		if n == 0 || !value.Equal(by.List[at], ahead) {
			out.List = append(out.List, arr())
		}
		ahead = by.List[at]
		last := &out.List[len(out.List)-1]
		last.List = append(last.List, v.List[at])
	}
	return out, ""
}

func groupOf(v, by api.Value) (api.Value, string) {
	out, complaint := groupsOf(v, by)
	if complaint != "" {
		return null, complaint
	}
	return unlessLarge(out)
}

func uniqueOf(v, by api.Value) (api.Value, string) {
	groups, complaint := groupsOf(v, by)
	if complaint != "" {
		return null, complaint
	}
	out := arr()
	for _, g := range groups.List {
		out.List = append(out.List, g.List[0])
	}
	return unlessLarge(out)
}

// heldOf goes through values one by one, as the chapter says of Least and Greatest.
func heldOf(v, by api.Value, greatest bool) (api.Value, string) {
	if v.Kind != api.Array || by.Kind != api.Array || len(v.List) != len(by.List) {
		return null, told(v) + " and " + told(by) + " cannot be iterated over"
	}
	var held, key api.Value
	for i, k := range by.List {
		if c := value.Compare(k, key); i == 0 || c < 0 != greatest {
			held, key = v.List[i], k
		}
	}
	return held, ""
}

func leastOf(v, by api.Value) (api.Value, string) { return heldOf(v, by, false) }

func greatestOf(v, by api.Value) (api.Value, string) { return heldOf(v, by, true) }

func flattenOf(v, deep api.Value) (api.Value, string) {
	switch {
	case deep.Kind == api.Number && deep.Num < 0:
		return null, "flatten depth must not be negative"
	case deep.Kind != api.Number:
		return null, "flatten depth must be a number"
	case v.Kind == api.Null:
		return null, "Cannot iterate over null"
	case v.Kind != api.Array && v.Kind != api.Object:
		return null, "Cannot iterate over " + told(v)
	}
	return unlessLarge(arr(flatOf(v, deep.Num)...))
}

func flatOf(v api.Value, deep float64) []api.Value {
	var out []api.Value
	for _, x := range v.List {
		inner := []api.Value{x}
		if x.Kind == api.Array && deep != 0 {
			inner = flatOf(x, deep-1)
		}
		out = append(out, inner...)
	}
	return out
}

func indicesOf(v, x api.Value) (api.Value, string) {
	out := arr()
	switch {
	case v.Kind == api.Null:
		return null, ""
	case v.Kind == api.String && x.Kind == api.String:
		points, part := []rune(v.Str), []rune(x.Str)
		for i := range points {
			if len(part) > 0 && i+len(part) <= len(points) && string(points[i:i+len(part)]) == x.Str {
				out.List = append(out.List, num(float64(i)))
			}
		}
	case v.Kind == api.Array && x.Kind == api.Array:
		for i := 0; i+len(x.List) <= len(v.List) && len(x.List) > 0; i++ {
			alike := true
			for j, y := range x.List {
				alike = alike && value.Equal(v.List[i+j], y)
			}
			if alike {
				out.List = append(out.List, num(float64(i)))
			}
		}
	case v.Kind == api.Array:
		for i, y := range v.List {
			if value.Equal(y, x) {
				out.List = append(out.List, num(float64(i)))
			}
		}
	default:
		return null, "Cannot determine the indices of " + nameOf(x) + " in " + nameOf(v)
	}
	return unlessLarge(out)
}

func transposeOf(v api.Value) (api.Value, string) {
	rightly := v.Kind == api.Array
	columns := 0
	for _, row := range v.List {
		rightly = rightly && row.Kind == api.Array
		columns = max(columns, len(row.List))
	}
	if !rightly {
		return null, told(v) + " cannot be transposed"
	}
	out := arr()
	for range columns {
		out.List = append(out.List, many(null, len(v.List)))
	}
	for i, row := range v.List {
		for j, x := range row.List {
			out.List[j].List[i] = x
		}
	}
	return unlessLarge(out)
}

func searchOf(v, x api.Value) (api.Value, string) {
	if v.Kind != api.Array {
		return null, told(v) + " cannot be searched from"
	}
	return num(float64(halving(v.List, x, 0, len(v.List)-1))), ""
}

func halving(list []api.Value, x api.Value, lo, hi int) int {
	if lo > hi {
		return -1 - lo
	}
	mid := int(math.Floor(float64(lo+hi) / 2))
	switch c := value.Compare(list[mid], x); {
	case c == 0:
		return mid
	case c < 0:
		return halving(list, x, mid+1, hi)
	}
	return halving(list, x, lo, mid-1)
}
