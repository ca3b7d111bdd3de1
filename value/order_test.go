package value_test

import (
	"math"
	"math/rand"
	"slices"
	"testing"

	"colander/api"
	"colander/value"
)

// P3.3

func TestCompareByHand(t *testing.T) {
	deep := func(v api.Value) api.Value { return nested(v, api.MaxDepth-1, true, true) }
	for _, x := range []struct {
		a, b api.Value
		want int
	}{
		{null, null, 0}, {no, no, 0}, {yes, yes, 0}, {null, no, -1}, {no, yes, -1}, {yes, num(-1), -1}, {num(9), str(""), -1}, {str("z"), arr(), -1}, {arr(), obj(""), -1}, {arr(yes), obj(""), -1}, {null, obj(""), -1},
		{num(1), num(2), -1}, {num(10), num(9), 1}, {num(-1), num(-2), 1}, {num(1), num(1), 0}, {num(0), minus, 0}, {minus, num(0), 0}, {num(0.1), num(0.10000000000000002), -1},
		{num(math.MaxFloat64), inf, -1}, {inf, inf, 0}, {num(math.Inf(-1)), num(-math.MaxFloat64), -1}, {num(5e-324), num(0), 1},
		{nan, nan, -1}, {nan, num(1), -1}, {num(1), nan, 1}, {nan, num(math.Inf(-1)), -1}, {num(math.Inf(-1)), nan, 1}, {yes, nan, -1}, {nan, str(""), -1},
		{num(math.Float64frombits(0xfff8000000000001)), num(0), -1}, {num(0), num(math.Float64frombits(0xfff8000000000001)), 1},
		{arr(nan), arr(nan), -1}, {arr(num(1), nan), arr(num(1), num(2)), -1}, {arr(num(1), num(2)), arr(num(1), nan), 1}, {obj("a", nan), obj("a", nan), -1},
		{str(""), str(""), 0}, {str(""), str("a"), -1}, {str("a"), str("ab"), -1}, {str("b"), str("ab"), 1}, {str("Z"), str("a"), -1}, {str("z"), str("é"), -1},
		{str("\uffff"), str("\U00010000"), -1}, {str("a\x00"), str("a"), 1}, {str("10"), str("9"), -1},
		{arr(), arr(null), -1}, {arr(num(1)), arr(num(1), null), -1}, {arr(num(2)), arr(num(1), num(9)), 1}, {arr(num(1), num(2)), arr(num(1), num(2)), 0}, {arr(arr()), arr(no), 1},
		{val(`{"a":2}`), val(`{"a":1,"b":0}`), -1}, {val(`{"a":1}`), val(`{"b":0}`), -1}, {val(`{"b":1}`), val(`{"a":1,"b":0}`), 1}, {val(`{}`), val(`{"":0}`), -1},
		{val(`{"a":1,"b":2}`), val(`{"b":2,"a":1}`), 0}, {val(`{"b":1,"a":2}`), val(`{"a":1,"b":2}`), 1}, {val(`{"b":9,"a":1}`), val(`{"a":2,"b":0}`), -1}, {val(`{"c":0,"b":1,"a":1}`), val(`{"a":1,"c":1,"b":0}`), 1},
		{val(`{"a":0}`), val(`{"a":-0}`), 0}, {val(`{"a":{"x":1,"y":2}}`), val(`{"a":{"y":2,"x":1}}`), 0}, {val(`[{"b":[{"d":1,"c":2}],"a":1}]`), val(`[{"a":1,"b":[{"c":2,"d":1}]}]`), 0},
		{deep(num(1)), deep(num(1)), 0}, {deep(num(1)), deep(num(2)), -1}, {deep(arr()), deep(num(2)), 1},
	} {
		if got := value.Compare(x.a, x.b); got != x.want {
			t.Errorf("Compare(%s, %s) = %d", value.Short(x.a), value.Short(x.b), got)
		}
		if got := value.Equal(x.a, x.b); got != (x.want == 0) {
			t.Errorf("Equal(%s, %s) = %v", value.Short(x.a), value.Short(x.b), got)
		}
	}
}

// checkOrder holds the order of two values against the model.
func checkOrder(t *testing.T, a, b api.Value) {
	t.Helper()
	want := compareOf(a, b)
	if got := value.Compare(a, b); got != want {
		t.Fatalf("Compare(%s, %s) = %d, want %d", textOf(a), textOf(b), got, want)
	}
	if got := value.Equal(a, b); got != (want == 0) {
		t.Fatalf("Equal(%s, %s) = %v", textOf(a), textOf(b), got)
	}
}

func TestCompare(t *testing.T) {
	all := oddSamples()
	for _, a := range all {
		for _, b := range all {
			checkOrder(t, a, b)
		}
	}
	r := rand.New(rand.NewSource(3))
	for range 100000 {
		checkOrder(t, somewhat(r, 3), somewhat(r, 3))
	}
}

func TestCompareOfManyKeys(t *testing.T) {
	up, down := obj(""), obj("")
	for i := range 20000 {
		up.Keys = append(up.Keys, string(rune(1000+i)))
		up.List = append(up.List, num(float64(i)))
	}
	down.Keys, down.List = slices.Clone(up.Keys), slices.Clone(up.List)
	slices.Reverse(down.Keys)
	slices.Reverse(down.List)
	if value.Compare(up, down) != 0 || !value.Equal(down, up) {
		t.Error("the order of the keys tells")
	}
	down.List[0] = num(-1) // the last one of the sorted keys
	if value.Compare(up, down) != 1 || value.Compare(down, up) != -1 {
		t.Error("the last value does not tell")
	}
	down.List[len(down.List)-1] = num(1) // the first one
	if value.Compare(up, down) != -1 || value.Compare(down, up) != 1 {
		t.Error("the first value does not tell")
	}
}
