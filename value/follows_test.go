package value_test

import (
	"math/rand"
	"slices"
	"sort"
	"strings"
	"testing"

	"colander/api"
	"colander/value"
)

// P3.7

func TestCompareIsAnOrder(t *testing.T) {
	all := samples()
	r := rand.New(rand.NewSource(8))
	for range 120 {
		all = append(all, somewhat(r, 3))
	}
	for _, a := range all {
		if value.Compare(a, a) != 0 {
			t.Fatalf("%s is not equal to itself", textOf(a))
		}
		for _, b := range all {
			ab := value.Compare(a, b)
			if ba := value.Compare(b, a); ab != -ba {
				t.Fatalf("%s and %s: %d and %d", textOf(a), textOf(b), ab, ba)
			}
			for _, c := range all {
				if ab <= 0 && value.Compare(b, c) <= 0 && value.Compare(a, c) > 0 {
					t.Fatalf("%s, %s, %s are in no order", textOf(a), textOf(b), textOf(c))
				}
			}
		}
	}
}

// plain answers v with its keys sorted, and without the sign of 0.
func plain(v api.Value) api.Value {
	out := api.Value{Kind: v.Kind, Num: v.Num + 0, Str: v.Str, Keys: keysOf(v)}
	for i, x := range v.List {
		if v.Kind == api.Object {
			x = fieldOf(v, out.Keys[i])
		}
		out.List = append(out.List, plain(x))
	}
	return out
}

func TestEqualValuesHaveOneText(t *testing.T) {
	all := samples()
	r := rand.New(rand.NewSource(9))
	for range 600 {
		all = append(all, somewhat(r, 2))
	}
	sort.SliceStable(all, func(i, j int) bool { return value.Compare(all[i], all[j]) < 0 })
	if !slices.IsSortedFunc(all, value.Compare) {
		t.Fatal("not sorted")
	}
	alike := 0
	for _, a := range all {
		for _, b := range all {
			if !value.Equal(a, b) {
				continue
			}
			alike++
			if value.Text(plain(a)) != value.Text(plain(b)) {
				t.Fatalf("%s equals %s", textOf(a), textOf(b))
			}
			if got, want := sortedBytes(value.Text(a)), sortedBytes(value.Text(b)); got != want && !strings.Contains(got+want, "-") {
				t.Fatalf("texts of equal values: %s, %s", textOf(a), textOf(b))
			}
		}
	}
	if alike < 2*len(all) {
		t.Fatal("too few are equal")
	}
}

func sortedBytes(s string) string {
	b := []byte(s)
	slices.Sort(b)
	return string(b)
}

func TestWhatWasPut(t *testing.T) {
	r := rand.New(rand.NewSource(10))
	keys := []string{"", "a", "b", "ab", "é", "new", "\U0001f600", "a\x00", "\xff"}
	for range 30000 {
		v, x, key := someObject(r, 3), somewhat(r, 3), keys[r.Intn(len(keys))]
		put := value.Put(v, key, x)
		if !value.Right(put) {
			t.Fatalf("Put(%s, %q, %s) is not right", textOf(v), key, textOf(x))
		}
		if got, ok := value.Get(put, key); !ok || !same(got, x) {
			t.Fatalf("Put(%s, %q, %s), then Get: %s, %v", textOf(v), key, textOf(x), textOf(got), ok)
		}
		dropped := value.Drop(put, key)
		if _, ok := value.Get(dropped, key); ok {
			t.Fatalf("Drop(%s, %q) = %s", textOf(put), key, textOf(dropped))
		}
		if _, old := value.Get(v, key); !old && !same(dropped, v) {
			t.Fatalf("Drop(%s, %q) = %s, want %s", textOf(put), key, textOf(dropped), textOf(v))
		}
	}
}

func TestSumsAreUndone(t *testing.T) {
	r := rand.New(rand.NewSource(11))
	for range 100000 {
		a := num(float64((r.Int63n(1<<50) + 1) >> r.Intn(50)))
		b := num(float64(r.Int63n(1<<50) >> r.Intn(50)))
		if r.Intn(2) == 0 {
			a.Num = -a.Num
		}
		if r.Intn(2) == 0 {
			b.Num = 0 - b.Num
		}
		sum, err := value.Operate("+", a, b)
		back, err2 := value.Operate("-", sum, b)
		if err.Is || err2.Is || !value.Equal(back, a) {
			t.Fatalf("%s + %s - %s = %s", textOf(a), textOf(b), textOf(b), textOf(back))
		}
	}
}

func TestAnswersAreRight(t *testing.T) {
	all := oddSamples()
	for _, a := range all {
		for _, b := range all {
			for _, op := range []string{"+", "-", "*", "/", "%", "", "no"} {
				got, err := value.Operate(op, a, b)
				if !value.Right(got) || !value.Right(err.V) || err.Is && (!same(got, null) || err.V.Kind != api.String) || !err.Is && !same(err.V, null) {
					t.Fatalf("%s %s %s: %s, %v %s", textOf(a), op, textOf(b), textOf(got), err.Is, textOf(err.V))
				}
			}
		}
	}
}
