package stream_test

import (
	"math/rand"
	"testing"

	"colander/api"
	"colander/reader"
	"colander/stream"
	"colander/value"
)

// P6.6

func eventsOfAll(l []api.Value) []api.Value {
	var out []api.Value
	for _, v := range l {
		out = append(out, stream.Events(v)...)
	}
	return out
}

// nodesOf counts a value's leaves, and its arrays and objects that are not empty.
func nodesOf(v api.Value) int {
	n := 1
	for _, x := range v.List {
		n += nodesOf(x)
	}
	return n
}

func checkFollows(t *testing.T, l []api.Value) {
	t.Helper()
	events := eventsOfAll(l)
	if got, e := stream.Back(events); e != api.OK || !sameRow(got, l) {
		t.Fatalf("Back of Events of %s: %s, %d", shown(l...), shown(got...), e)
	}
	text, n := "", 0
	for _, v := range l {
		text += value.Text(v) + "\n"
		n += nodesOf(v)
	}
	if len(events) != n {
		t.Fatalf("%s has %d events, want %d", shown(l...), len(events), n)
	}
	all, _ := reader.All(text)
	if got, f := stream.Read(text); f != (api.Fault{}) || !sameRow(got, eventsOfAll(all)) {
		t.Fatalf("Read of %s: %s, %v", shown(l...), shown(got...), f)
	}
	for _, e := range events {
		checkCuts(t, e)
	}
}

func checkCuts(t *testing.T, e api.Value) {
	t.Helper()
	all := len(e.List[0].List)
	if got, ok := stream.Cut(0, e); ok != (all > 0) || ok && !same(got, e) {
		t.Fatalf("Cut(0, %s) = %s, %v", shown(e), shown(got), ok)
	}
	for m := range all + 1 {
		once, ok := stream.Cut(m, e)
		if ok != (m < all) || ok && len(once.List[0].List) != all-m {
			t.Fatalf("Cut(%d, %s) = %s, %v", m, shown(e), shown(once), ok)
		}
		for n := range all - m + 1 {
			if !ok {
				continue
			}
			twice, ok2 := stream.Cut(n, once)
			want, wantOk := stream.Cut(n+m, e)
			if ok2 != wantOk || !same(twice, want) {
				t.Fatalf("Cut(%d, ..) of Cut(%d, %s) = %s, want %s", n, m, shown(e), shown(twice), shown(want))
			}
		}
	}
}

func TestWhatFollows(t *testing.T) {
	checkFollows(t, nil)
	checkFollows(t, samples())
	for _, v := range append(samples(), nan, arr(nan, nan), obj("a", nan)) {
		checkFollows(t, []api.Value{v, v})
	}
	r := rand.New(rand.NewSource(66))
	for range 4000 {
		var l []api.Value
		for range r.Intn(4) {
			l = append(l, somewhat(r, 4))
		}
		checkFollows(t, l)
	}
}

// TestLeavesLieAtTheirPaths has W5's way of looking: what lies at a leaf's path is the leaf.
func TestLeavesLieAtTheirPaths(t *testing.T) {
	r := rand.New(rand.NewSource(67))
	for range 4000 {
		v := somewhat(r, 5)
		for _, e := range stream.Events(v) {
			at := v
			for _, p := range e.List[0].List {
				if p.Kind == api.String {
					at, _ = value.Get(at, p.Str)
				} else {
					at = at.List[int(p.Num)]
				}
			}
			if len(e.List) == 2 && !same(at, e.List[1]) {
				t.Fatalf("%s of %s: there lies %s", shown(e), shown(v), shown(at))
			}
		}
	}
}
