package path_test

import (
	"math/rand"
	"slices"
	"testing"

	"colander/api"
	"colander/path"
	"colander/value"
)

// P7.8

func TestGetOfPut(t *testing.T) {
	r := rand.New(rand.NewSource(82))
	put := 0
	for range 50000 {
		v, x := somewhat(r, 4), somewhat(r, 2)
		p := slices.DeleteFunc(somePath(r, v, 5), func(key api.Value) bool {
			return key.Kind != api.String && (key.Kind != api.Number || !(key.Num >= 0))
		})
		w, err := path.Put(v, p, x)
		if err.Is {
			continue
		}
		put++
		got, err := path.Get(w, p)
		checkOutcome(t, "Get of Put("+shown(v)+", "+shown(p...)+", "+shown(x)+")", got, err, x, "")
	}
	if put < 10000 {
		t.Error("too few paths lead anywhere:", put)
	}
}

// checkPaths holds that Paths' paths lead to all values within v, each ahead of those within it, and that what lies there, put back, changes nothing.
func checkPaths(t *testing.T, v api.Value) {
	t.Helper()
	var row []api.Value
	var walk func(v api.Value)
	walk = func(v api.Value) {
		for _, x := range v.List {
			row = append(row, x)
			walk(x)
		}
	}
	walk(v)
	paths := path.Paths(v)
	if len(paths) != len(row) {
		t.Fatalf("Paths(%s) = %s", shown(v), shownPaths(paths))
	}
	for i, p := range paths {
		x, err := path.Get(v, p)
		checkOutcome(t, "Get("+shown(v)+", "+shown(p...)+")", x, err, row[i], "")
		same, err := path.Put(v, p, x)
		checkOutcome(t, "Put("+shown(v)+", "+shown(p...)+") of what is there", same, err, v, "")
	}
}

func TestPathsLeadToValues(t *testing.T) {
	for _, v := range samples() {
		checkPaths(t, v)
	}
	r := rand.New(rand.NewSource(83))
	for range 3000 {
		checkPaths(t, somewhat(r, 5))
	}
}

// TestWhatIsDeletedIsGone: a key is there no more; an array has a value less, and those behind it stand one place ahead.
func TestWhatIsDeletedIsGone(t *testing.T) {
	r := rand.New(rand.NewSource(84))
	for range 2000 {
		v := somewhat(r, 5)
		for _, p := range path.Paths(v) {
			last := len(p) - 1
			got, err := path.Delete(v, [][]api.Value{p})
			if err.Is {
				t.Fatalf("Delete(%s, %s): %s", shown(v), shown(p...), shown(err.V))
			}
			old, _ := path.Get(v, p[:last])
			left, _ := path.Get(got, p[:last])
			if has, _ := path.Has(left, p[last]); left.Kind == api.Object && has || len(left.List) != len(old.List)-1 {
				t.Fatalf("Delete(%s, %s) = %s", shown(v), shown(p...), shown(got))
			}
			if at := int(p[last].Num); left.Kind == api.Array && !sameRow(left.List, slices.Delete(old.List, at, at+1)) {
				t.Fatalf("Delete(%s, %s) = %s", shown(v), shown(p...), shown(got))
			}
		}
		got, err := path.Delete(v, path.Paths(v))
		want := api.Value{Kind: v.Kind, Num: v.Num, Str: v.Str}
		checkOutcome(t, "Delete of all that is within "+shown(v), got, err, want, "")
	}
}

// W5

func TestAValueIsItsLeaves(t *testing.T) {
	r := rand.New(rand.NewSource(85))
	for range 5000 {
		v := somewhat(r, 5)
		out := null
		for _, p := range append(path.Paths(v), nil) {
			x, _ := path.Get(v, p)
			if len(x.List) > 0 || len(p) == 0 && len(v.List) > 0 {
				continue
			}
			var err api.Err
			if out, err = path.Put(out, p, x); err.Is {
				t.Fatalf("Put(%s, %s): %s", shown(out), shown(p...), shown(err.V))
			}
		}
		checkOutcome(t, "the leaves of "+shown(v), out, api.Err{}, v, "")
	}
}

// The rules: what is handed in is not changed and not kept; an answer is right, and the caller's own.

// calls does all calls with what is handed in, and gives what each answers.
func calls(v, key, x api.Value, p []api.Value, give func(name string, answer []api.Value)) {
	whole := func(name string, got api.Value, err api.Err) {
		give(name, []api.Value{got, err.V})
	}
	got, err := path.Index(v, key)
	whole("Index", got, err)
	got, err = path.Slice(v, key, x)
	whole("Slice", got, err)
	keys, values, err := path.Each(v)
	give("Each", append(slices.Concat(keys, values), err.V))
	_, err = path.Has(v, key)
	give("Has", []api.Value{err.V})
	got, err = path.Set(v, key, x)
	whole("Set", got, err)
	got, err = path.Get(v, p)
	whole("Get", got, err)
	got, err = path.Put(v, p, x)
	whole("Put", got, err)
	got, err = path.Delete(v, [][]api.Value{p, {key}, p})
	whole("Delete", got, err)
	got, err = path.Delete(v, nil)
	whole("Delete of none", got, err)
}

func checkAnswers(t *testing.T, v, key, x api.Value, p []api.Value) {
	t.Helper()
	v, key, x, p = apart(v), apart(key), apart(x), apartRow(p)
	given := arr(v, key, x, arr(p...))
	old := apart(given)
	calls(v, key, x, p, func(name string, answer []api.Value) {
		name += " of " + shown(old)
		if !same(given, old) || !untouched(given) {
			t.Fatalf("%s changes what is handed in: %s", name, shown(given))
		}
		if !value.Right(arr(answer...)) {
			t.Fatalf("%s is not right: %s", name, shown(answer...))
		}
		checkOwn(t, name, answer, given)
	})
}

func TestAnswersAreNew(t *testing.T) {
	all := samples()
	for _, v := range all {
		for _, key := range all {
			checkAnswers(t, v, key, v, []api.Value{key, num(0)})
		}
	}
	r := rand.New(rand.NewSource(86))
	for range 30000 {
		v := somewhat(r, 4)
		x := somewhat(r, 2)
		if r.Intn(2) == 0 {
			x = arr(x, v)
		}
		checkAnswers(t, v, someKey(r), x, somePath(r, v, 4))
	}
}

func TestPathsAreNew(t *testing.T) {
	for _, v := range samples() {
		given := apart(arr(v, obj("key other", v, arr(v))))
		old := apart(given)
		paths := path.Paths(given)
		if !same(given, old) || !untouched(given) {
			t.Fatalf("Paths of %s changes it", shown(old))
		}
		checkOwn(t, "Paths of "+shown(old), []api.Value{rowOf(paths)}, given)
	}
}

// TestOneValueTwice: where one value stands in several places of what is handed in, the answer still has several.
func TestOneValueTwice(t *testing.T) {
	x := val(`{"a":[1,{"b":[2]}]}`)
	row := arr(x, x, x)
	for text, p := range map[string][]api.Value{
		"in a new place":  {num(5)},
		"in an old place": {num(1)},
		"further in":      {num(1), str("a"), num(7)},
		"for a slice":     {part(num(1), num(2))},
		"within a slice":  {part(num(1), null), num(0)},
	} {
		got, err := path.Put(row, p, row)
		checkOwn(t, text, []api.Value{got, err.V}, row)
		got, err = path.Delete(row, [][]api.Value{p})
		checkOwn(t, text, []api.Value{got, err.V}, row)
		got, err = path.Get(row, p)
		checkOwn(t, text, []api.Value{got, err.V}, row)
	}
	keys, values, _ := path.Each(row)
	checkOwn(t, "Each", slices.Concat(keys, values), row)
}

// TestListsWithRoom: an empty list that has room behind its end is not handed on.
func TestListsWithRoom(t *testing.T) {
	room, names := make([]api.Value, 3), make([]string, 3)
	for _, empty := range []api.Value{{Kind: api.Array, List: room[:0]}, {Kind: api.Object, List: room[:0], Keys: names[:0]}} {
		for _, v := range []api.Value{empty, arr(empty), obj("a", empty)} {
			for _, key := range []api.Value{num(0), str("a"), part(null, null)} {
				calls(v, key, empty, []api.Value{key, key}, func(name string, answer []api.Value) {
					checkOwn(t, name, answer, v)
					for _, x := range append(answer, arr(answer...).List...) {
						for i := range x.List[:cap(x.List)] {
							x.List[:cap(x.List)][i] = str("spoilt")
						}
					}
				})
			}
		}
	}
	if !sameRow(room, make([]api.Value, 3)) || !slices.Equal(names, make([]string, 3)) {
		t.Error("the room was handed on")
	}
}
