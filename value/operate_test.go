package value_test

import (
	"math"
	"math/rand"
	"strings"
	"testing"

	"colander/api"
	"colander/value"
)

// P3.6

// checkOutcome holds what an operator answered: the outcome, or the error's text, if there is to be one.
func checkOutcome(t *testing.T, op string, a, b, want api.Value, complaint string) {
	t.Helper()
	got, err := value.Operate(op, a, b)
	wantErr := api.Err{}
	if complaint != "" {
		want, wantErr = null, api.Err{Is: true, V: str(complaint)}
	}
	if !same(got, want) {
		t.Fatalf("%s %s %s = %s, want %s", shortOf(a), op, shortOf(b), shortOf(got), shortOf(want))
	}
	if err.Is != wantErr.Is || !same(err.V, wantErr.V) {
		t.Fatalf("%s %s %s: error %v %s, want %s", shortOf(a), op, shortOf(b), err.Is, err.V.Str, complaint)
	}
}

func TestOutcomesByHand(t *testing.T) {
	for _, x := range []struct{ op, a, b, want string }{
		{"+", `null`, `null`, `null`}, {"+", `null`, `1`, `1`}, {"+", `{"a":1}`, `null`, `{"a":1}`}, {"+", `null`, `false`, `false`}, {"+", `true`, `null`, `true`}, {"+", `null`, `-0`, `-0`},
		{"+", `1`, `2`, `3`}, {"+", `0.1`, `0.2`, `0.30000000000000004`}, {"+", `-0`, `-0`, `-0`}, {"+", `0`, `-0`, `0`}, {"+", `"a"`, `"b"`, `"ab"`}, {"+", `""`, `""`, `""`}, {"+", `[1]`, `[2,[3]]`, `[1,2,[3]]`}, {"+", `[]`, `[]`, `[]`},
		{"+", `{"b":1,"a":2}`, `{"c":3,"a":4,"d":5}`, `{"b":1,"a":4,"c":3,"d":5}`}, {"+", `{"a":{"b":1}}`, `{"a":{"c":2}}`, `{"a":{"c":2}}`}, {"+", `{}`, `{"b":1,"a":2}`, `{"b":1,"a":2}`},
		{"-", `1`, `2`, `-1`}, {"-", `0.3`, `0.1`, `0.19999999999999998`}, {"-", `1`, `1`, `0`}, {"-", `-0`, `0`, `-0`},
		{"-", `[1,2,1]`, `[1]`, `[2]`}, {"-", `[1,2,1]`, `[]`, `[1,2,1]`}, {"-", `[]`, `[1]`, `[]`}, {"-", `[0,-0,1]`, `[-0]`, `[1]`}, {"-", `[{"a":1,"b":2},[1]]`, `[{"b":2,"a":1}]`, `[[1]]`}, {"-", `[3,"a",null,[],{},true,false]`, `[false,{},null,"b"]`, `[3,"a",[],true]`}, {"-", `[[1],1]`, `[1]`, `[[1]]`},
		{"*", `2`, `3`, `6`}, {"*", `0.1`, `3`, `0.30000000000000004`}, {"*", `-1`, `0`, `-0`}, {"*", `1e300`, `1e-300`, `1`},
		{"*", `"ab"`, `1.5`, `"abab"`}, {"*", `1.5`, `"ab"`, `"abab"`}, {"*", `"ab"`, `1`, `"ab"`}, {"*", `"ab"`, `0.1`, `"ab"`}, {"*", `"ab"`, `5e-324`, `"ab"`}, {"*", `"ab"`, `0.9999999999`, `"ab"`}, {"*", `"ab"`, `2`, `"abab"`}, {"*", `2.000000001`, `"é"`, `"ééé"`},
		{"*", `"ab"`, `0`, `null`}, {"*", `"ab"`, `-0`, `null`}, {"*", `"ab"`, `-1`, `null`}, {"*", `-0.5`, `"ab"`, `null`}, {"*", `""`, `0`, `null`}, {"*", `""`, `3`, `""`}, {"*", `""`, `1e300`, `""`}, {"*", `1e19`, `""`, `""`},
		{"*", `{"a":{"b":1,"c":2},"d":3}`, `{"e":4,"a":{"c":{"x":1},"f":5}}`, `{"a":{"b":1,"c":{"x":1},"f":5},"d":3,"e":4}`}, {"*", `{"a":{"b":1}}`, `{"a":null}`, `{"a":null}`}, {"*", `{"a":[1]}`, `{"a":{"b":1}}`, `{"a":{"b":1}}`}, {"*", `{"a":{"b":1}}`, `{"a":[{}]}`, `{"a":[{}]}`}, {"*", `{}`, `{}`, `{}`}, {"*", `{"a":{"b":{"c":{"d":1}}}}`, `{"a":{"b":{"c":{"e":2}}}}`, `{"a":{"b":{"c":{"d":1,"e":2}}}}`}, {"*", `{"a":2}`, `{"a":3}`, `{"a":3}`},
		{"/", `6`, `4`, `1.5`}, {"/", `1`, `3`, `0.3333333333333333`}, {"/", `0`, `-1`, `-0`}, {"/", `-6`, `-3`, `2`},
		{"/", `"a,b,"`, `","`, `["a","b",""]`}, {"/", `"aé"`, `""`, `["a","é"]`}, {"/", `""`, `""`, `[]`}, {"/", `""`, `","`, `[]`}, {"/", `"a"`, `"a"`, `["",""]`}, {"/", `"aaa"`, `"aa"`, `["","a"]`}, {"/", `"a, b"`, `", "`, `["a","b"]`},
		{"%", `5`, `2`, `1`}, {"%", `5`, `-2`, `1`}, {"%", `-5`, `2`, `-1`}, {"%", `-5`, `-2`, `-1`}, {"%", `6`, `3`, `0`}, {"%", `-6`, `3`, `0`}, {"%", `-6`, `-3`, `0`}, {"%", `0`, `3`, `0`}, {"%", `-0`, `3`, `0`}, {"%", `0`, `-3`, `0`}, {"%", `-0.9`, `3`, `0`}, {"%", `5.9`, `2.9`, `1`}, {"%", `-5.9`, `2.9`, `-1`}, {"%", `5`, `1.5`, `0`}, {"%", `2`, `5`, `2`}, {"%", `-2`, `5`, `-2`},
	} {
		checkOutcome(t, x.op, val(x.a), val(x.b), val(x.want), "")
	}
}

func TestOutcomesOfOddNumbers(t *testing.T) {
	down := num(math.Inf(-1))
	for _, x := range []struct {
		op         string
		a, b, want api.Value
	}{
		{"+", inf, inf, inf}, {"+", inf, down, nan}, {"+", nan, num(1), nan}, {"+", null, nan, nan}, {"+", num(math.MaxFloat64), num(math.MaxFloat64), inf},
		{"-", inf, inf, nan}, {"-", num(1), nan, nan}, {"*", inf, num(0), nan}, {"*", num(1e200), num(-1e200), down}, {"/", inf, inf, nan}, {"/", num(1), num(5e-324), inf}, {"/", num(-1), num(5e-324), down}, {"/", num(1), inf, num(0)}, {"/", num(-1), inf, minus}, {"/", nan, num(1), nan}, {"/", num(1), nan, nan},
		{"-", arr(nan, num(1)), arr(nan, num(1)), arr(nan)}, {"-", arr(arr(nan), num(1), num(2)), arr(nan, num(2), arr(nan), num(3)), arr(arr(nan), num(1))}, {"-", arr(obj("a", nan), null), arr(obj("a", nan)), arr(obj("a", nan), null)}, {"-", arr(inf, down), arr(num(math.MaxFloat64), down), arr(inf)},
		{"*", str("a"), nan, null}, {"*", nan, str("a"), null}, {"*", str("a"), down, null}, {"*", str(""), inf, str("")}, {"*", str(""), nan, null},
	} {
		checkOutcome(t, x.op, x.a, x.b, x.want, "")
	}
}

func TestRemainders(t *testing.T) {
	down, far, most := num(math.Inf(-1)), num(1<<63), float64(math.MaxInt64)
	for _, x := range []struct{ a, b, want api.Value }{
		{nan, num(1), nan}, {num(1), nan, nan}, {nan, nan, nan}, {nan, num(0), nan}, {nan, num(0.5), nan}, {num(0), nan, nan}, {nan, inf, nan},
		// 2^63 - 1 is 7 times 1317624576693539401.
		{inf, num(7), num(0)}, {down, num(7), num(0)}, {far, num(7), num(0)}, {num(-(1 << 63)), num(7), num(0)}, {num(1e300), num(-7), num(0)}, {num(1 << 64), num(7), num(0)},
		{inf, num(10), num(7)}, {down, num(10), num(-7)}, {far, num(-10), num(7)}, {num(-(1 << 63)), num(10), num(-7)}, {num(-1e300), num(10), num(-7)},
		{num(1<<63 - 1024), num(10), num(4)}, {num(-(1<<63 - 1024)), num(10), num(-4)}, {num(1 << 62), num(10), num(4)},
		{inf, inf, num(0)}, {inf, down, num(0)}, {down, far, num(0)}, {num(5), inf, num(5)}, {num(-5), inf, num(-5)}, {num(5), down, num(5)}, {num(-5.5), num(1e300), num(-5)},
		{num(-(1 << 63)), num(-1), num(0)}, {down, num(-1), num(0)}, {num(1<<53 + 2), num(3), num(1)}, {num(1<<63 - 1024), inf, num(1<<63 - 1024)},
		// 2^63 - 1 less 2^62 is 2^62 - 1, whose nearest double is 2^62.
		{inf, num(1 << 62), num(1 << 62)}, {down, num(1 << 62), num(-(1 << 62))}, {inf, num(1<<63 - 1024), num(1023)}, {num(most), num(2), num(1)},
		{num(1e18 + 128), num(1e9), num(128)}, {num(0.9), num(1), num(0)}, {num(1.9), num(1), num(0)}, {num(5e-324), num(1), num(0)}, {num(-5e-324), num(1), num(0)},
	} {
		checkOutcome(t, "%", x.a, x.b, x.want, "")
	}
	for _, b := range []float64{0, math.Copysign(0, -1), 0.5, -0.5, 0.9999999999, -5e-324} {
		for _, a := range []float64{5, 0, -1.5, math.Inf(1), math.Inf(-1)} {
			want := "number (" + textOf(num(a)) + ") and number (" + textOf(num(b)) + ") cannot be divided because the divisor is zero"
			checkOutcome(t, "%", num(a), num(b), null, want)
		}
	}
}

func TestRemaindersByChance(t *testing.T) {
	r := rand.New(rand.NewSource(6))
	for range 300000 {
		a := math.Ldexp(r.Float64()*2-1, r.Intn(72))
		b := math.Ldexp(r.Float64()*2-1, r.Intn(72))
		want, complaint := operateOf("%", num(a), num(b))
		checkOutcome(t, "%", num(a), num(b), want, complaint)
	}
}

// TestArraysLessWithNaN: what has NaN in it equals nothing, and hides nothing else.
func TestArraysLessWithNaN(t *testing.T) {
	r := rand.New(rand.NewSource(12))
	some := func() api.Value {
		v := arr()
		for range r.Intn(40) {
			x := num(float64(r.Intn(30)))
			if r.Intn(4) == 0 {
				x = nan
			}
			v.List = append(v.List, []api.Value{x, arr(x), arr(num(1), x), obj("a", x)}[r.Intn(4)])
		}
		return v
	}
	for range 5000 {
		a, b := some(), some()
		want, complaint := operateOf("-", a, b)
		checkOutcome(t, "-", a, b, want, complaint)
	}
}

func TestErrorsByHand(t *testing.T) {
	for _, x := range []struct{ op, a, b, want string }{
		{"+", `{"a":1}`, `2`, `object ({"a":1}) and number (2) cannot be added`},
		{"+", `1`, `"a"`, `number (1) and string ("a") cannot be added`},
		{"+", `true`, `true`, `boolean (true) and boolean (true) cannot be added`}, {"+", `false`, `false`, `boolean (false) and boolean (false) cannot be added`}, {"+", `true`, `false`, `boolean (true) and boolean (false) cannot be added`},
		{"+", `[1]`, `1`, `array ([1]) and number (1) cannot be added`},
		{"+", `"aaaaaaaaaaaaaaaaaaaaaaaaaa"`, `[]`, `string ("aaaaaaaaaaaaaaaaaaaa...) and array ([]) cannot be added`},
		{"-", `null`, `1`, `null (null) and number (1) cannot be subtracted`}, {"-", `null`, `null`, `null (null) and null (null) cannot be subtracted`}, {"-", `"a"`, `"a"`, `string ("a") and string ("a") cannot be subtracted`}, {"-", `{}`, `{}`, `object ({}) and object ({}) cannot be subtracted`}, {"-", `[1]`, `1`, `array ([1]) and number (1) cannot be subtracted`}, {"-", `1`, `null`, `number (1) and null (null) cannot be subtracted`},
		{"*", `null`, `1`, `null (null) and number (1) cannot be multiplied`}, {"*", `[]`, `2`, `array ([]) and number (2) cannot be multiplied`}, {"*", `"a"`, `"b"`, `string ("a") and string ("b") cannot be multiplied`}, {"*", `{}`, `2`, `object ({}) and number (2) cannot be multiplied`}, {"*", `"a"`, `null`, `string ("a") and null (null) cannot be multiplied`}, {"*", `[]`, `[]`, `array ([]) and array ([]) cannot be multiplied`}, {"*", `{}`, `"a"`, `object ({}) and string ("a") cannot be multiplied`},
		{"/", `1`, `0`, `number (1) and number (0) cannot be divided because the divisor is zero`}, {"/", `0`, `-0`, `number (0) and number (-0) cannot be divided because the divisor is zero`},
		{"/", `"a"`, `1`, `string ("a") and number (1) cannot be divided`}, {"/", `"a"`, `0`, `string ("a") and number (0) cannot be divided`}, {"/", `[1]`, `[1]`, `array ([1]) and array ([1]) cannot be divided`}, {"/", `null`, `null`, `null (null) and null (null) cannot be divided`}, {"/", `{}`, `{}`, `object ({}) and object ({}) cannot be divided`}, {"/", `0`, `"a"`, `number (0) and string ("a") cannot be divided`},
		{"%", `5`, `0.5`, `number (5) and number (0.5) cannot be divided because the divisor is zero`}, {"%", `5`, `0`, `number (5) and number (0) cannot be divided because the divisor is zero`},
		{"%", `"a"`, `"a"`, `string ("a") and string ("a") cannot be divided`}, {"%", `1`, `null`, `number (1) and null (null) cannot be divided`}, {"%", `null`, `0`, `null (null) and number (0) cannot be divided`}, {"%", `{}`, `1`, `object ({}) and number (1) cannot be divided`},
	} {
		checkOutcome(t, x.op, val(x.a), val(x.b), null, x.want)
	}
	checkOutcome(t, "/", nan, num(0), null, "number (null) and number (0) cannot be divided because the divisor is zero")
	checkOutcome(t, "+", str(strings.Repeat("é", 30)), num(1), null, `string ("éééééééééééééééééééé...) and number (1) cannot be added`)
}

func TestUnknownOperators(t *testing.T) {
	for _, op := range []string{"", "?", "++", "+ ", " +", "//", "**", "%%", "and", "==", "-=", "\x00", "\xff", "+\x00"} {
		for _, v := range []api.Value{null, num(1), str("a"), arr(), obj("")} {
			checkOutcome(t, op, v, v, null, "unknown operator")
			checkOutcome(t, op, null, v, null, "unknown operator")
		}
	}
}

func TestOutcomes(t *testing.T) {
	ops := []string{"+", "-", "*", "/", "%"}
	all := oddSamples()
	for _, a := range all {
		for _, b := range all {
			for _, op := range ops {
				if a.Kind == api.String && a.Str != "" && b.Num > 1e6 || b.Kind == api.String && b.Str != "" && a.Num > 1e6 {
					continue // what would be too large, and the empty text any number of times, have tests of their own
				}
				want, complaint := operateOf(op, a, b)
				checkOutcome(t, op, a, b, want, complaint)
			}
		}
	}
	r := rand.New(rand.NewSource(7))
	for range 100000 {
		a, b := somewhat(r, 3), somewhat(r, 3)
		if r.Intn(2) == 0 {
			a, b = someObject(r, 4), someObject(r, 4)
		}
		op := ops[r.Intn(len(ops))]
		want, complaint := operateOf(op, a, b)
		checkOutcome(t, op, a, b, want, complaint)
	}
}

func TestLargeOutcomes(t *testing.T) {
	const large = "value is too large"
	most := strings.Repeat("a", api.MaxBytes)
	half := arr(many(null, api.MaxNodes/2)...)
	for _, x := range []struct {
		name  string
		op    string
		a, b  api.Value
		large bool
	}{
		{"MaxBytes and none", "+", str(most), str(""), false},
		{"MaxBytes and one", "+", str(most), str("a"), true},
		{"MaxBytes in halves", "+", str(most[1:]), str("a"), false},
		{"more than MaxBytes and none", "+", str(most + "a"), str(""), true},
		{"MaxNodes", "+", half, arr(many(null, api.MaxNodes/2-1)...), false},
		{"one more", "+", half, half, true},
		{"more than MaxNodes and none", "+", arr(many(null, api.MaxNodes)...), arr(), true},
		{"bytes of arrays", "+", arr(str(most)), arr(str("a")), true},
		{"bytes of objects", "+", obj("a", str(most[1:])), obj("b", null), true},
		{"bytes of objects at the limit", "+", obj("a", str(most[2:])), obj("b", null), false},
		{"what was large is put away", "+", obj("a", str(most)), obj("a", null), false},
		{"bytes of a product", "*", obj("a", obj("b", str(most[3:]))), obj("a", obj("cd", null)), true},
		{"bytes of a product at the limit", "*", obj("a", obj("b", str(most[3:]))), obj("a", obj("c", null)), false},
		{"values of a product", "*", obj("a", arr(many(null, api.MaxNodes-3)...)), obj("b", arr(null)), true},
		{"values of a product at the limit", "*", obj("a", arr(many(null, api.MaxNodes-3)...)), obj("b", obj("")), false},
		{"MaxBytes times", "*", str("a"), num(api.MaxBytes), false},
		{"a half more", "*", str("a"), num(api.MaxBytes + 0.5), true},
		{"up to MaxBytes", "*", str("a"), num(api.MaxBytes - 0.5), false},
		{"three bytes below", "*", str("abc"), num(api.MaxBytes / 3), false},
		{"three bytes above", "*", str("abc"), num(api.MaxBytes/3 + 1), true},
		{"MaxBytes once", "*", str(most), num(0.5), false},
		{"more than MaxBytes once", "*", num(1), str(most + "a"), true},
		{"without end", "*", str("a"), inf, true},
		{"far", "*", num(1e300), str("a"), true},
		{"2^63 times", "*", num(1 << 63), str("ab"), true},
		{"2^62 times four", "*", num(1 << 62), str("abcd"), true},
		{"pieces at the limit", "/", str(most[:api.MaxNodes-1]), str(""), false},
		{"one piece more", "/", str(most[:api.MaxNodes]), str(""), true},
		{"far more pieces", "/", str(most), str(""), true},
		{"parts at the limit", "/", str(most[:api.MaxNodes-2]), str("a"), false},
		{"one part more", "/", str(most[:api.MaxNodes-1]), str("a"), true},
		{"bytes of the parts at the limit", "/", str(most + "b"), str("b"), false},
		{"bytes of the parts", "/", str(most + "ba"), str("b"), true},
	} {
		got, err := value.Operate(x.op, x.a, x.b)
		if err.Is != x.large || err.Is && (!same(err.V, str(large)) || !same(got, null)) {
			t.Errorf("%s: %s, %v %s", x.name, value.Short(got), err.Is, err.V.Str)
		}
		if !err.Is && value.Large(got) {
			t.Errorf("%s: the outcome is large", x.name)
		}
	}
}

func TestLargeOutcomesThatMayBe(t *testing.T) {
	long, wide := str(strings.Repeat("a", api.MaxBytes+1)), arr(many(null, api.MaxNodes)...)
	for _, v := range []api.Value{long, wide, obj("a", wide)} {
		checkOutcome(t, "+", null, v, v, "")
		checkOutcome(t, "+", v, null, v, "")
	}
	checkOutcome(t, "-", wide, arr(num(1)), wide, "")
	checkOutcome(t, "-", arr(long, null, long), arr(null), arr(long, long), "")
	checkOutcome(t, "*", long, num(0), null, "")
	checkOutcome(t, "+", long, num(1), null, `string ("aaaaaaaaaaaaaaaaaaaa...) and number (1) cannot be added`)
}

func TestDeepOutcomes(t *testing.T) {
	deep := nested(num(1), api.MaxDepth-1, false, true)
	other := nested(obj("x", num(2)), api.MaxDepth-2, false, true)
	want := nested(obj("k x", num(1), num(2)), api.MaxDepth-2, false, true)
	checkOutcome(t, "*", deep, other, want, "")
	checkOutcome(t, "*", other, other, other, "")
	checkOutcome(t, "+", deep, other, other, "")
	list := nested(num(1), api.MaxDepth-1, true, false)
	checkOutcome(t, "+", list, list, arr(list.List[0], list.List[0]), "")
	checkOutcome(t, "-", arr(list.List[0], null), list, arr(null), "")
}

// TestOutcomesOfManyValues would take minutes, if each were held against each.
func TestOutcomesOfManyValues(t *testing.T) {
	const n = 30000
	var up, down, rest api.Value
	up.Kind, down.Kind, rest.Kind = api.Array, api.Array, api.Array
	a, b := obj(""), obj("")
	for i := range n {
		x, y := float64(i), float64(n-1-i)
		up.List = append(up.List, arr(num(x), str("x")))
		down.List = append(down.List, arr(num(2*y), str("x")), nan)
		if i%2 == 1 {
			rest.List = append(rest.List, arr(num(x), str("x")))
		}
		a.Keys, a.List = append(a.Keys, string(rune(100000+i))), append(a.List, num(1))
		b.Keys, b.List = append(b.Keys, string(rune(100000+n-1-i))), append(b.List, num(2))
	}
	checkOutcome(t, "-", up, down, rest, "")
	want := apart(a)
	for i := range want.List {
		want.List[i] = num(2)
	}
	for _, op := range []string{"+", "*"} {
		checkOutcome(t, op, a, b, want, "")
		checkOutcome(t, op, obj("k", a), obj("k", b), obj("k", map[string]api.Value{"+": b, "*": want}[op]), "")
	}
	checkOutcome(t, "-", arr(a, b, null), arr(want, b), arr(a, null), "")
}
