package value_test

import (
	"encoding/json"
	"math"
	"math/big"
	"math/rand"
	"sort"
	"strings"
	"unsafe"

	"colander/api"
	"colander/number"
	"colander/sample"
)

// What the tests of several packages have in common.
var (
	num, str, arr, obj = sample.Num, sample.Str, sample.Arr, sample.Obj
	same               = sample.Same
	apart              = sample.Apart
)

// How the tests make values.

var (
	null  = api.Value{Kind: api.Null}
	no    = api.Value{Kind: api.False}
	yes   = api.Value{Kind: api.True}
	nan   = num(math.NaN())
	minus = num(math.Copysign(0, -1))
	inf   = num(math.Inf(1))
)

// val answers the value that a JSON text writes, its keys in the order of the text.
func val(text string) api.Value {
	d := json.NewDecoder(strings.NewReader(text))
	return next(d)
}

func next(d *json.Decoder) api.Value {
	t, err := d.Token()
	if err != nil {
		panic(err)
	}
	switch t := t.(type) {
	case bool:
		if t {
			return yes
		}
		return no
	case float64:
		return num(t)
	case string:
		return str(t)
	case json.Delim:
		v := api.Value{Kind: api.Array}
		if t == '{' {
			v.Kind = api.Object
		}
		for d.More() {
			if v.Kind == api.Object {
				v.Keys = append(v.Keys, next(d).Str)
			}
			v.List = append(v.List, next(d))
		}
		d.Token()
		return v
	}
	return null
}

// nested answers v within n arrays, or objects, or both by turns.
func nested(v api.Value, n int, arrays, objects bool) api.Value {
	for i := range n {
		if arrays && (!objects || i%2 == 0) {
			v = arr(v)
		} else {
			v = obj("k", v)
		}
	}
	return v
}

// many answers n times the same value.
func many(v api.Value, n int) []api.Value {
	out := make([]api.Value, n)
	for i := range out {
		out[i] = v
	}
	return out
}

// samples are values of all kinds, the edges among them, without NaN.
func samples() []api.Value {
	out := []api.Value{inf, num(math.Inf(-1)), num(math.MaxFloat64), num(-math.MaxFloat64), str("\x7f\x00"), str("\U0001f600")}
	for _, text := range []string{
		`null`, `false`, `true`, `0`, `-0`, `1`, `-1`, `2`, `-2`, `0.5`, `-0.5`, `1.5`, `3`, `1e300`, `5e-324`, `10`, `-10`,
		`""`, `"a"`, `"b"`, `"ab"`, `"aa"`, `"A"`, `"a,b"`, `","`, `"é"`, `"\uffff"`, `"\u0000"`, `"a\u0000"`,
		`[]`, `[null]`, `[0]`, `[-0]`, `[1]`, `[1,2]`, `[2,1]`, `[1,2,1]`, `[[]]`, `[[1]]`, `[{}]`, `["a"]`, `[{"a":1}]`, `[1,{"b":[2]}]`, `[{"b":1,"a":2}]`, `[{"a":2,"b":1}]`,
		`{}`, `{"a":1}`, `{"a":2}`, `{"a":1,"b":0}`, `{"b":0,"a":1}`, `{"b":1,"a":2}`, `{"":null}`, `{"a":{}}`, `{"a":{"b":1}}`, `{"a":{"c":2,"b":3}}`, `{"a":[1]}`, `{"c":1,"a":{"b":{"d":1}}}`, `{"a":{"b":{"e":1,"d":2}},"c":3}`,
		`{"b":1}`, `{"aa":1}`, `{"é":1}`, `{"a":-0}`, `{"a":0}`,
	} {
		out = append(out, val(text))
	}
	return out
}

// oddSamples are samples, and such with NaN in them.
func oddSamples() []api.Value {
	return append(samples(), nan, arr(nan), arr(num(1), nan), obj("a", nan), obj("a b", num(1), nan), obj("b a", nan, num(1)), arr(nan, num(1)))
}

// somewhat answers a value by chance, with few keys and few numbers, so that parts are often alike.
func somewhat(r *rand.Rand, levels int) api.Value {
	kinds := 7
	if levels == 0 {
		kinds = 5
	}
	switch r.Intn(kinds) {
	case 0:
		return null
	case 1:
		return yes
	case 2:
		return no
	case 3:
		return num(float64(r.Intn(5) - 2))
	case 4:
		return str([]string{"", "a", "b", "ab", "é"}[r.Intn(5)])
	case 5:
		v := arr()
		for range r.Intn(4) {
			v.List = append(v.List, somewhat(r, levels-1))
		}
		return v
	}
	return someObject(r, levels)
}

func someObject(r *rand.Rand, levels int) api.Value {
	v := api.Value{Kind: api.Object}
	for _, i := range r.Perm(5)[:r.Intn(5)] {
		v.Keys = append(v.Keys, []string{"", "a", "b", "ab", "é"}[i])
		v.List = append(v.List, somewhat(r, levels-1))
	}
	return v
}

// How the tests hold values against each other.

func sameNumber(a, b float64) bool {
	return a != a && b != b || math.Float64bits(a) == math.Float64bits(b)
}

// memory counts in seen how often lists begin at an address, and tells of texts where theirs are.
func memory(v api.Value, seen map[any]int) {
	if len(v.List) > 0 {
		seen[&v.List[0]]++
	}
	if len(v.Keys) > 0 {
		seen[&v.Keys[0]]++
	}
	for _, s := range append([]string{v.Str}, v.Keys...) {
		if s != "" {
			seen[unsafe.StringData(s)]++
		}
	}
	for _, x := range v.List {
		memory(x, seen)
	}
}

// spoil changes all that v's lists hold.
func spoil(v api.Value) {
	for i := range v.Keys {
		v.Keys[i] = "spoilt"
	}
	for i := range v.List {
		spoil(v.List[i])
		v.List[i] = str("spoilt")
	}
}

// The tests' own model of what the document says, made by the words and without haste.

// compareOf is P3.3.
func compareOf(a, b api.Value) int {
	if a.Kind != b.Kind {
		return int(sign(int(a.Kind) - int(b.Kind)))
	}
	switch a.Kind {
	case api.Number:
		switch {
		case a.Num != a.Num:
			return -1
		case b.Num != b.Num:
			return 1
		case a.Num < b.Num:
			return -1
		case a.Num > b.Num:
			return 1
		}
	case api.String:
		return compareLists(bytesOf(a.Str), bytesOf(b.Str))
	case api.Array:
		return compareLists(a.List, b.List)
	case api.Object:
		ka, kb := keysOf(a), keysOf(b)
		if c := compareLists(strsOf(ka), strsOf(kb)); c != 0 {
			return c
		}
		for _, k := range ka {
			if c := compareOf(fieldOf(a, k), fieldOf(b, k)); c != 0 {
				return c
			}
		}
	}
	return 0
}

func sign(n int) int {
	switch {
	case n < 0:
		return -1
	case n > 0:
		return 1
	}
	return 0
}

func compareLists(a, b []api.Value) int {
	for i := 0; i < len(a) && i < len(b); i++ {
		if c := compareOf(a[i], b[i]); c != 0 {
			return c
		}
	}
	return sign(len(a) - len(b))
}

func bytesOf(s string) []api.Value {
	var out []api.Value
	for i := range len(s) {
		out = append(out, num(float64(s[i])))
	}
	return out
}

func strsOf(l []string) []api.Value {
	var out []api.Value
	for _, s := range l {
		out = append(out, str(s))
	}
	return out
}

func keysOf(v api.Value) []string {
	out := append([]string(nil), v.Keys...)
	sort.Strings(out)
	return out
}

func fieldOf(v api.Value, key string) api.Value {
	for i, k := range v.Keys {
		if k == key {
			return v.List[i]
		}
	}
	return null
}

// textOf is P3.4.
func textOf(v api.Value) string {
	var parts []string
	switch v.Kind {
	case api.Null:
		return "null"
	case api.False:
		return "false"
	case api.True:
		return "true"
	case api.Number:
		return number.Text(v.Num)
	case api.String:
		return quoted(v.Str)
	case api.Array:
		for _, x := range v.List {
			parts = append(parts, textOf(x))
		}
		return "[" + strings.Join(parts, ",") + "]"
	}
	for i, x := range v.List {
		parts = append(parts, quoted(v.Keys[i])+":"+textOf(x))
	}
	return "{" + strings.Join(parts, ",") + "}"
}

func quoted(s string) string {
	out := []byte{'"'}
	for i := range len(s) {
		c := s[i]
		switch {
		case c == '"' || c == '\\':
			out = append(out, '\\', c)
		case c >= 8 && c <= 13 && c != 11:
			out = append(out, '\\', "btn_fr"[c-8])
		case c < 32 || c == 127:
			out = append(out, '\\', 'u', '0', '0', '0'+c/16, "0123456789abcdef"[c%16])
		default:
			out = append(out, c)
		}
	}
	return string(append(out, '"'))
}

// shortOf is P3.4, too.
func shortOf(v api.Value) string {
	points := []rune(textOf(v))
	if len(points) <= 24 {
		return string(points)
	}
	return string(points[:21]) + "..."
}

// putOf is P3.5.
func putOf(v api.Value, key string, x api.Value) api.Value {
	v = apart(v)
	for i, k := range v.Keys {
		if k == key {
			v.List[i] = x
			return v
		}
	}
	v.Keys = append(v.Keys, key)
	v.List = append(v.List, x)
	return v
}

// operateOf is P3.6, of values that give nothing large: the outcome, or the error's text.
func operateOf(op string, a, b api.Value) (api.Value, string) {
	names := []string{"null", "boolean", "boolean", "number", "string", "array", "object"}
	pair := names[a.Kind] + " (" + shortOf(a) + ") and " + names[b.Kind] + " (" + shortOf(b) + ") cannot be "
	kinds := [2]api.Kind{a.Kind, b.Kind}
	numbers := kinds == [2]api.Kind{api.Number, api.Number}
	strs := kinds == [2]api.Kind{api.String, api.String}
	arrays := kinds == [2]api.Kind{api.Array, api.Array}
	objects := kinds == [2]api.Kind{api.Object, api.Object}
	switch op {
	case "+":
		switch {
		case a.Kind == api.Null:
			return b, ""
		case b.Kind == api.Null:
			return a, ""
		case numbers:
			return num(a.Num + b.Num), ""
		case strs:
			return str(a.Str + b.Str), ""
		case arrays:
			return arr(append(append([]api.Value(nil), a.List...), b.List...)...), ""
		case objects:
			for i, k := range b.Keys {
				a = putOf(a, k, b.List[i])
			}
			return a, ""
		}
		return null, pair + "added"
	case "-":
		if numbers {
			return num(a.Num - b.Num), ""
		}
		if arrays {
			return lessOf(a, b), ""
		}
		return null, pair + "subtracted"
	case "*":
		switch {
		case numbers:
			return num(a.Num * b.Num), ""
		case kinds == [2]api.Kind{api.String, api.Number}:
			return timesOf(a.Str, b.Num), ""
		case kinds == [2]api.Kind{api.Number, api.String}:
			return timesOf(b.Str, a.Num), ""
		case objects:
			return productOf(a, b), ""
		}
		return null, pair + "multiplied"
	case "/":
		switch {
		case numbers && b.Num == 0:
			return null, pair + "divided because the divisor is zero"
		case numbers:
			return num(a.Num / b.Num), ""
		case strs && a.Str == "":
			return arr(), ""
		case strs:
			return arr(strsOf(strings.Split(a.Str, b.Str))...), ""
		}
		return null, pair + "divided"
	case "%":
		switch {
		case numbers && (a.Num != a.Num || b.Num != b.Num):
			return nan, ""
		case numbers && amountOf(b.Num).Sign() == 0:
			return null, pair + "divided because the divisor is zero"
		case numbers:
			return restOf(a.Num, b.Num), ""
		}
		return null, pair + "divided"
	}
	return null, "unknown operator"
}

func lessOf(a, b api.Value) api.Value {
	out := arr()
	for _, x := range a.List {
		kept := true
		for _, y := range b.List {
			kept = kept && compareOf(x, y) != 0
		}
		if kept {
			out.List = append(out.List, x)
		}
	}
	return out
}

func timesOf(s string, f float64) api.Value {
	if f != f || f <= 0 {
		return null
	}
	out := ""
	for i := 0.0; i < f && s != ""; i++ {
		out += s
	}
	return str(out)
}

func productOf(a, b api.Value) api.Value {
	for i, k := range b.Keys {
		x := b.List[i]
		if old := fieldOf(a, k); old.Kind == api.Object && x.Kind == api.Object {
			x = productOf(old, x)
		}
		a = putOf(a, k, x)
	}
	return a
}

// amountOf answers a number without its fraction and its sign, at most 2^63 - 1.
func amountOf(f float64) *big.Int {
	most := new(big.Int).SetInt64(math.MaxInt64)
	if math.IsInf(f, 0) {
		return most
	}
	n, _ := new(big.Float).SetFloat64(math.Abs(f)).Int(nil)
	if n.Cmp(most) > 0 {
		return most
	}
	return n
}

func restOf(a, b float64) api.Value {
	rest := new(big.Int).Rem(amountOf(a), amountOf(b))
	f, _ := new(big.Float).SetInt(rest).Float64()
	if a < 0 && f != 0 {
		f = -f
	}
	return num(f)
}
