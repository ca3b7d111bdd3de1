package value_test

import (
	"math/rand"
	"slices"
	"strings"
	"testing"

	"colander/api"
	"colander/value"
)

// P3.5

func TestKeysByHand(t *testing.T) {
	for _, x := range []struct {
		v    api.Value
		want []string
	}{
		{obj(""), nil}, {obj("a", null), []string{"a"}}, {obj("b a", null, null), []string{"a", "b"}},
		{obj("b a ab _ B é \U00010000 \uffff", many(null, 8)...), []string{"", "B", "a", "ab", "b", "é", "\uffff", "\U00010000"}},
		{obj("a", obj("b", null)), []string{"a"}},
	} {
		if got := value.Keys(x.v); !slices.Equal(got, x.want) {
			t.Errorf("Keys(%s) = %q", textOf(x.v), got)
		}
	}
}

func TestObjectsByHand(t *testing.T) {
	for _, x := range []struct {
		v       string
		key     string
		found   bool
		put     string
		dropped string
	}{
		{`{}`, "a", false, `{"a":"new"}`, `{}`},
		{`{}`, "", false, `{"":"new"}`, `{}`},
		{`{"a":1}`, "a", true, `{"a":"new"}`, `{}`},
		{`{"a":1}`, "b", false, `{"a":1,"b":"new"}`, `{"a":1}`},
		{`{"b":1}`, "a", false, `{"b":1,"a":"new"}`, `{"b":1}`},
		{`{"b":1,"a":2,"c":3}`, "b", true, `{"b":"new","a":2,"c":3}`, `{"a":2,"c":3}`},
		{`{"b":1,"a":2,"c":3}`, "a", true, `{"b":1,"a":"new","c":3}`, `{"b":1,"c":3}`},
		{`{"b":1,"a":2,"c":3}`, "c", true, `{"b":1,"a":2,"c":"new"}`, `{"b":1,"a":2}`},
		{`{"b":1,"a":2,"c":3}`, "", false, `{"b":1,"a":2,"c":3,"":"new"}`, `{"b":1,"a":2,"c":3}`},
		{`{"":1,"a":null}`, "", true, `{"":"new","a":null}`, `{"a":null}`},
		{`{"a":{"b":1}}`, "b", false, `{"a":{"b":1},"b":"new"}`, `{"a":{"b":1}}`},
		{`{"A":1,"aa":2}`, "a", false, `{"A":1,"aa":2,"a":"new"}`, `{"A":1,"aa":2}`},
		{`{"é":1}`, "é", true, `{"é":"new"}`, `{}`},
	} {
		v := val(x.v)
		want := null
		if x.found {
			want = fieldOf(v, x.key)
		}
		if got, ok := value.Get(v, x.key); ok != x.found || !same(got, want) {
			t.Errorf("Get(%s, %q) = %s, %v", x.v, x.key, textOf(got), ok)
		}
		if got := value.Put(v, x.key, str("new")); !same(got, val(x.put)) {
			t.Errorf("Put(%s, %q) = %s", x.v, x.key, textOf(got))
		}
		if got := value.Drop(v, x.key); !same(got, val(x.dropped)) {
			t.Errorf("Drop(%s, %q) = %s", x.v, x.key, textOf(got))
		}
	}
	if got, ok := value.Get(obj("a", null), "a"); !ok || !same(got, null) {
		t.Errorf("Get of a null = %s, %v", textOf(got), ok)
	}
}

func TestNoObjects(t *testing.T) {
	for _, v := range oddSamples() {
		if v.Kind == api.Object {
			continue
		}
		if got := value.Keys(v); len(got) != 0 {
			t.Errorf("Keys(%s) = %q", textOf(v), got)
		}
		for _, key := range []string{"", "a", "0", "\xff"} {
			if got, ok := value.Get(v, key); ok || !same(got, null) {
				t.Errorf("Get(%s, %q) = %s, %v", textOf(v), key, textOf(got), ok)
			}
			if got := value.Put(v, key, num(1)); !same(got, v) {
				t.Errorf("Put(%s, %q) = %s", textOf(v), key, textOf(got))
			}
			if got := value.Drop(v, key); !same(got, v) {
				t.Errorf("Drop(%s, %q) = %s", textOf(v), key, textOf(got))
			}
		}
	}
}

// TestKeysOfBadBytes: what is answered is right, whatever key is handed in, and what was put is found.
func TestKeysOfBadBytes(t *testing.T) {
	for _, key := range []string{"\xff", "a\xe2\x82", "\xed\xa0\x80", "\xff\xff"} {
		for _, v := range []api.Value{obj(""), obj("a b", num(1), num(2)), obj("a", obj("\ufffd\ufffd\ufffd", null))} {
			put := value.Put(v, key, str("new"))
			if !value.Right(put) || len(put.List) != len(v.List)+1 {
				t.Errorf("Put of %q = %s, not right", key, textOf(put))
			}
			if got, ok := value.Get(put, key); !ok || !same(got, str("new")) {
				t.Errorf("Get of %q = %s, %v", key, textOf(got), ok)
			}
			if got, ok := value.Get(v, key); ok || !same(got, null) {
				t.Errorf("Get of %q, ahead of its Put = %s, %v", key, textOf(got), ok)
			}
			if got := value.Drop(put, key); !same(got, v) {
				t.Errorf("Drop of %q = %s", key, textOf(got))
			}
		}
	}
}

func TestObjectsWithoutLimit(t *testing.T) {
	// What is put together of right values may have more levels than MaxDepth, and be large.
	deep := nested(num(1), api.MaxDepth-1, true, true)
	put := value.Put(obj("a", null), "b", deep)
	if got, ok := value.Get(put, "b"); !ok || !same(got, deep) || value.Right(put) {
		t.Error("what is deep is not put as it is")
	}
	long := str(strings.Repeat("a", api.MaxBytes))
	if put := value.Put(obj("a", long), "b", long); !value.Large(put) || !same(put, obj("a b", long, long)) {
		t.Error("what is large is not put as it is")
	}
}

func TestObjects(t *testing.T) {
	r := rand.New(rand.NewSource(5))
	for range 50000 {
		v, x := someObject(r, 3), somewhat(r, 2)
		key := []string{"", "a", "b", "ab", "é", "new"}[r.Intn(6)]
		if got, want := value.Put(v, key, x), putOf(v, key, x); !same(got, want) {
			t.Fatalf("Put(%s, %q, %s) = %s", textOf(v), key, textOf(x), textOf(got))
		}
		_, ok := value.Get(v, key)
		if ok != slices.Contains(v.Keys, key) {
			t.Fatalf("Get(%s, %q): %v", textOf(v), key, ok)
		}
		if got, _ := value.Get(v, key); !same(got, fieldOf(v, key)) {
			t.Fatalf("Get(%s, %q) = %s", textOf(v), key, textOf(got))
		}
		if got := value.Keys(v); !slices.Equal(got, keysOf(v)) {
			t.Fatalf("Keys(%s) = %q", textOf(v), got)
		}
	}
}

// The rules: what is handed in is not changed and not kept; an answer is the caller's own.

// checkOwn holds that an answer shares nothing with what was handed in, nor within itself, and that this is as it was.
func checkOwn(t *testing.T, call string, answer api.Value, args ...api.Value) {
	t.Helper()
	seen := map[any]int{}
	memory(answer, seen)
	for p, n := range seen {
		if n > 1 {
			t.Fatalf("%s: parts of the answer share memory at %v", call, p)
		}
	}
	handed := map[any]int{}
	for _, a := range args {
		memory(a, handed)
	}
	for p := range handed {
		if seen[p] > 0 {
			t.Fatalf("%s: the answer shares memory with an argument", call)
		}
	}
}

func TestAnswersAreNew(t *testing.T) {
	all := oddSamples()
	for _, a := range all {
		for _, b := range all {
			a, b := apart(a), apart(b)
			oldA, oldB := apart(a), apart(b)
			for _, op := range []string{"+", "-", "*", "/", "%", "?"} {
				got, _ := value.Operate(op, a, b)
				checkOwn(t, textOf(a)+op+textOf(b), got, a, b)
				spoil(got)
			}
			got := value.Put(a, "a", b)
			checkOwn(t, "Put of "+textOf(a), got, a, b)
			spoil(got)
			value.Compare(a, b)
			value.Equal(a, b)
			if !same(a, oldA) || !same(b, oldB) {
				t.Fatalf("changed: %s, %s", textOf(oldA), textOf(oldB))
			}
		}
		for _, key := range []string{"", "a", "b"} {
			old := apart(a)
			got, _ := value.Get(a, key)
			checkOwn(t, "Get of "+textOf(a), got, a)
			spoil(got)
			got = value.Drop(a, key)
			checkOwn(t, "Drop of "+textOf(a), got, a)
			spoil(got)
			keys := value.Keys(a)
			checkOwn(t, "Keys of "+textOf(a), api.Value{Keys: keys}, a)
			spoil(api.Value{Keys: keys})
			value.Right(a)
			value.Large(a)
			value.Text(a)
			value.Short(a)
			if !same(a, old) {
				t.Fatalf("changed: %s", textOf(old))
			}
		}
	}
}

func TestOneValueTwice(t *testing.T) {
	// Where one value stands in two places of what is handed in, the answer still has two.
	x := val(`{"a":[1,{"b":2}]}`)
	for call, got := range map[string]api.Value{
		"Put of an array":  value.Put(arr(x, x), "a", x),
		"Put":              value.Put(obj("a b", x, x), "a", x),
		"Put behind":       value.Put(obj("a b", x, x), "c", x),
		"Drop":             value.Drop(obj("a b c", x, x, x), "b"),
		"Drop of none":     value.Drop(obj("a b c", x, x, x), "d"),
		"arrays added":     added(arr(x, x), arr(x)),
		"an array added":   added(x, null),
		"null added":       added(null, arr(x, x)),
		"objects added":    added(obj("a b", x, x), obj("b c", x, x)),
		"arrays less":      less(arr(x, x, null), arr(null)),
		"objects' product": times(obj("a b", x, x), obj("b c", x, x)),
		"itself added":     added(x, x),
	} {
		checkOwn(t, call, got, x)
	}
}

func added(a, b api.Value) api.Value {
	v, _ := value.Operate("+", a, b)
	return v
}

func less(a, b api.Value) api.Value {
	v, _ := value.Operate("-", a, b)
	return v
}

func times(a, b api.Value) api.Value {
	v, _ := value.Operate("*", a, b)
	return v
}

func TestRoomBehindIsNotTouched(t *testing.T) {
	room := []api.Value{num(1), num(2), num(3)}
	names := []string{"a", "b", "c"}
	v := api.Value{Kind: api.Object, List: room[:1], Keys: names[:1]}
	value.Put(v, "x", null)
	value.Drop(v, "a")
	value.Operate("+", v, obj("x", null))
	value.Operate("*", v, obj("x", null))
	a := arr(room[:1]...)
	value.Operate("+", a, arr(null))
	value.Operate("-", a, arr(num(1)))
	value.Operate("-", arr(null), a)
	value.Compare(api.Value{Kind: api.Object, List: room[:2], Keys: []string{"b", "a"}}, v)
	if !same(arr(room...), arr(num(1), num(2), num(3))) || !slices.Equal(names, []string{"a", "b", "c"}) {
		t.Error("what stands behind a list was changed")
	}
}
