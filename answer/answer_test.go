package answer_test

import (
	"strings"
	"testing"
	"unsafe"

	"colander/answer"
	"colander/api"
	"colander/reader"
	"colander/value"
)

func val(t *testing.T, text string) api.Value {
	t.Helper()
	l, f := reader.All(text)
	if f != (api.Fault{}) || len(l) != 1 {
		t.Fatal(text)
	}
	return l[0]
}

func isNone(v api.Value) bool {
	return v.Kind == api.Null && v.Str == "" && v.List == nil && v.Keys == nil
}

func TestOwn(t *testing.T) {
	for _, text := range []string{`null`, `true`, `-0`, `"abc"`, `[]`, `[1,["a",{"b":"c"}]]`, `{"a":[1,"b"],"c":{}}`} {
		v := val(t, text)
		if got := answer.Own(v); value.Text(got) != text || got.Kind != v.Kind {
			t.Errorf("Own(%s) = %s", text, value.Text(got))
		}
	}
	v := val(t, `{"key":["text"]}`)
	got := answer.Own(v)
	if unsafe.StringData(got.Keys[0]) == unsafe.StringData(v.Keys[0]) || unsafe.StringData(got.List[0].List[0].Str) == unsafe.StringData(v.List[0].List[0].Str) || &got.List[0] == &v.List[0] {
		t.Error("Own shares memory")
	}
}

func TestSmall(t *testing.T) {
	as := api.Value{Kind: api.String, Str: strings.Repeat("a", api.MaxBytes)}
	if got, err := answer.Small(as); err.Is || got.Str != as.Str {
		t.Error("Small refuses what is not too large")
	}
	as.Str += "a"
	if got, err := answer.Small(as); !err.Is || err.V.Str != "value is too large" || !isNone(got) {
		t.Error("Small of what is too large:", err.V.Str)
	}
}

func TestNumbers(t *testing.T) {
	if got := answer.Number(-7); value.Text(got) != "-7" {
		t.Error("Number", value.Text(got))
	}
	for _, l := range [][]int{nil, {3}, {0, -1, 65536}} {
		got, err := answer.Numbers(l)
		if err.Is || got.Kind != api.Array || len(got.List) != len(l) {
			t.Fatal("Numbers", value.Text(got), err.V.Str)
		}
		for i, n := range l {
			if value.Compare(got.List[i], answer.Number(n)) != 0 {
				t.Error("Numbers", value.Text(got))
			}
		}
	}
	if got, err := answer.Numbers(make([]int, api.MaxNodes-1)); err.Is || value.Large(got) {
		t.Error("Numbers refuses as many as may be")
	}
	if got, err := answer.Numbers(make([]int, api.MaxNodes)); !err.Is || err.V.Str != "value is too large" || !isNone(got) {
		t.Error("Numbers of too many:", err.V.Str)
	}
}

func TestErrors(t *testing.T) {
	if err := answer.Failure("a text"); !err.Is || err.V.Kind != api.String || err.V.Str != "a text" {
		t.Error("Failure", err)
	}
	for text, want := range map[string]string{
		`null`: `null (null)`, `false`: `boolean (false)`, `{"a":1}`: `object ({"a":1})`, `"abcdefghijklmnopqrstuvwxyz"`: `string ("abcdefghijklmnopqrst...)`,
	} {
		if got := answer.Told(val(t, text)); got != want {
			t.Errorf("Told(%s) = %s, want %s", text, got, want)
		}
	}
}
