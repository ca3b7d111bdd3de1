package value_test

import (
	"encoding/json"
	"math"
	"math/rand"
	"strings"
	"testing"

	"colander/api"
	"colander/value"
)

// P3.4

func TestTextByHand(t *testing.T) {
	for _, x := range []struct {
		v    api.Value
		want string
	}{
		{null, "null"}, {no, "false"}, {yes, "true"},
		{num(1), "1"}, {num(-0.5), "-0.5"}, {num(0), "0"}, {minus, "-0"}, {nan, "null"}, {inf, "1.7976931348623157e+308"}, {num(math.Inf(-1)), "-1.7976931348623157e+308"}, {num(1e17), "1e+17"}, {num(123456789012345680), "123456789012345680"}, {num(1e-5), "1e-05"},
		{str(""), `""`}, {str("a b"), `"a b"`}, {str(`"\/`), `"\"\\/"`}, {str("\b\f\n\r\t"), `"\b\f\n\r\t"`}, {str("\x00\x01\v\x0e\x1f"), `"\u0000\u0001\u000b\u000e\u001f"`},
		{str("~\x7f\u0080\u00a0é"), `"~\u007f` + "\u0080\u00a0é" + `"`}, {str("<>&'\u2028\U0001f600\ufffd"), "\"<>&'\u2028\U0001f600\ufffd\""},
		{arr(), "[]"}, {arr(null), "[null]"}, {arr(num(1), str("a"), arr(), obj("")), `[1,"a",[],{}]`}, {arr(arr(arr(num(1)), num(2))), "[[[1],2]]"},
		{obj(""), "{}"}, {obj("a", num(1)), `{"a":1}`}, {obj("b a _", num(1), arr(num(2)), obj("c", null)), `{"b":1,"a":[2],"":{"c":null}}`},
		{obj("\"\\\x7fé", yes), `{"\"\\\u007fé":true}`}, {arr(nan, minus, inf), "[null,-0,1.7976931348623157e+308]"},
		{nested(num(1), api.MaxDepth-1, true, false), strings.Repeat("[", api.MaxDepth-1) + "1" + strings.Repeat("]", api.MaxDepth-1)},
	} {
		if got := value.Text(x.v); got != x.want {
			t.Errorf("Text = %.99s, want %.99s", got, x.want)
		}
	}
}

func TestTextOfEachPoint(t *testing.T) {
	for p := range rune(0x110000) {
		if p >= 0xd800 && p <= 0xdfff {
			continue
		}
		s := "a" + string(p) + "b"
		got, want := value.Text(str(s)), quoted(s)
		if got != want {
			t.Fatalf("Text of point %d = %s, want %s", p, got, want)
		}
		if p < 300 && value.Text(obj(s, null)) != "{"+want+":null}" && !strings.ContainsAny(s, " \t\n\v\f\r_\u0085\u00a0") {
			t.Fatalf("Text of the key of point %d = %s", p, value.Text(obj(s, null)))
		}
	}
}

// checkTexts holds a value's texts against the model, and the library's reader against the text.
func checkTexts(t *testing.T, v api.Value) {
	t.Helper()
	got, want := value.Text(v), textOf(v)
	if got != want {
		t.Fatalf("Text = %.99s, want %.99s", got, want)
	}
	if !json.Valid([]byte(got)) {
		t.Fatalf("Text is no JSON: %.99s", got)
	}
	if got, want := value.Short(v), shortOf(v); got != want {
		t.Fatalf("Short = %s, want %s", got, want)
	}
}

func TestTexts(t *testing.T) {
	for _, v := range oddSamples() {
		checkTexts(t, v)
	}
	r := rand.New(rand.NewSource(4))
	for range 50000 {
		checkTexts(t, somewhat(r, 4))
	}
}

func TestShortByHand(t *testing.T) {
	count := func(n int) api.Value {
		v := arr()
		for i := range n {
			v.List = append(v.List, num(float64(i+1)))
		}
		return v
	}
	for _, x := range []struct {
		v    api.Value
		want string
	}{
		{null, "null"}, {str(""), `""`}, {count(12), "[1,2,3,4,5,6,7,8,9,10..."}, {count(11), "[1,2,3,4,5,6,7,8,9,10..."}, {count(10), "[1,2,3,4,5,6,7,8,9,10]"},
		{str(strings.Repeat("a", 22)), `"` + strings.Repeat("a", 22) + `"`},
		{str(strings.Repeat("a", 23)), `"` + strings.Repeat("a", 20) + "..."},
		{str(strings.Repeat("é", 22)), `"` + strings.Repeat("é", 22) + `"`},
		{str(strings.Repeat("é", 23)), `"` + strings.Repeat("é", 20) + "..."},
		{str(strings.Repeat("\U0001f600", 22)), `"` + strings.Repeat("\U0001f600", 22) + `"`},
		{str(strings.Repeat("\U0001f600", 23)), `"` + strings.Repeat("\U0001f600", 20) + "..."},
		{str(strings.Repeat("\x00", 4)), `"\u0000\u0000\u0000\u...`},
		{obj(strings.Repeat("k", 18), num(1)), `{"` + strings.Repeat("k", 18) + `":1}`},
		{obj(strings.Repeat("k", 19), num(1)), `{"` + strings.Repeat("k", 19) + `...`},
		{inf, "1.7976931348623157e+308"}, {num(-math.MaxFloat64), "-1.7976931348623157e+308"}, {arr(num(-math.MaxFloat64)), "[-1.7976931348623157e..."},
	} {
		if got := value.Short(x.v); got != x.want {
			t.Errorf("Short = %s, want %s", got, x.want)
		}
	}
}

func TestShortAtEachLength(t *testing.T) {
	for _, point := range []string{"a", "é", "€", "\U0001f600", "\n", "\x01", "a\U0001f600"} {
		for n := range 130 {
			s := strings.Repeat(point, n)
			for _, v := range []api.Value{str(s), arr(str(s)), obj(s+"x", str(s)), arr(many(str(point), n)...), obj("a b", str(s), str(s)), arr(str(s), null, yes, arr(arr()))} {
				checkTexts(t, v)
			}
		}
	}
}

func TestShortOfGreatValues(t *testing.T) {
	for name, v := range map[string]api.Value{
		"long":  str(strings.Repeat("é", api.MaxBytes/2)),
		"many":  arr(many(arr(yes), api.MaxNodes/2)...),
		"deep":  nested(str("a"), api.MaxDepth-1, true, true),
		"keys":  obj(strings.Repeat("é", api.MaxBytes/2), null),
		"later": arr(num(1), obj("a", arr(many(str("b"), api.MaxNodes/2)...)), null),
	} {
		want := shortOf(v)
		for range 20000 { // which would take long, if each time the whole text were written
			if got := value.Short(v); got != want {
				t.Fatalf("%s: Short = %s, want %s", name, got, want)
			}
		}
	}
}
