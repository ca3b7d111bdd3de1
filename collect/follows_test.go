package collect_test

import (
	"math/rand"
	"slices"
	"testing"

	"colander/api"
	"colander/collect"
	"colander/value"
)

// P8.6

// must answers what a call answers that is not refused.
func must(t *testing.T, do call, v, x api.Value) api.Value {
	t.Helper()
	got, err := do(v, x)
	if err.Is {
		t.Fatalf("%s and %s are refused: %s", shown(v), shown(x), shown(err.V))
	}
	return got
}

// checkKeyed holds together what the calls answer of values that have keys.
func checkKeyed(t *testing.T, v, by api.Value) {
	t.Helper()
	sorted := must(t, collect.Sort, v, by)
	if !sameRow(inOneOrder(sorted.List), inOneOrder(v.List)) {
		t.Fatalf("Sort(%s, %s) = %s: other values", shown(v), shown(by), shown(sorted))
	}
	groups := must(t, collect.Group, v, by)
	var row []api.Value
	for _, g := range groups.List {
		row = append(row, g.List...)
	}
	if !sameRow(row, sorted.List) {
		t.Fatalf("Group(%s, %s) = %s, Sort %s", shown(v), shown(by), shown(groups), shown(sorted))
	}
	unique := must(t, collect.Unique, v, by)
	for i, x := range unique.List {
		if !same(x, groups.List[i].List[0]) {
			t.Fatalf("Unique(%s, %s) = %s, Group %s", shown(v), shown(by), shown(unique), shown(groups))
		}
	}
	if len(unique.List) != len(groups.List) {
		t.Fatalf("Unique(%s, %s) = %s, Group %s", shown(v), shown(by), shown(unique), shown(groups))
	}
}

// inOneOrder answers values in an order that tells all of them apart, the sign of 0 and which key came first, too.
func inOneOrder(list []api.Value) []api.Value {
	out := slices.Clone(list)
	slices.SortFunc(out, func(a, b api.Value) int {
		if value.Text(a) < value.Text(b) {
			return -1
		}
		if value.Text(a) > value.Text(b) {
			return 1
		}
		return int(a.Kind) - int(b.Kind) // NaN and null have one text
	})
	return out
}

func TestWhatFollowsOfKeys(t *testing.T) {
	r := rand.New(rand.NewSource(91))
	for range 20000 {
		n := r.Intn(9)
		checkKeyed(t, someArray(r, n, 2), someKeys(r, n))
	}
}

// TestOrderOfKeys: without NaN, keys are their own order, and Unique's least one is Least.
func TestOrderOfKeys(t *testing.T) {
	r := rand.New(rand.NewSource(92))
	for range 20000 {
		by := withoutNaN(someKeys(r, r.Intn(9)))
		sorted := must(t, collect.Sort, by, by)
		if !slices.IsSortedFunc(sorted.List, value.Compare) {
			t.Fatalf("Sort(%s) = %s", shown(by), shown(sorted))
		}
		v := counted(len(by.List))
		unique := must(t, collect.Unique, v, by)
		for i, a := range unique.List {
			for _, b := range unique.List[:i] {
				if value.Equal(by.List[int(a.Num)], by.List[int(b.Num)]) {
					t.Fatalf("Unique(.., %s) = %s", shown(by), shown(unique))
				}
			}
		}
		least := null
		if len(unique.List) > 0 {
			least = unique.List[0]
		}
		got, err := collect.Least(v, by)
		checkOutcome(t, "Least(.., "+shown(by)+")", got, err, least, "")
		if greatest := must(t, collect.Greatest, by, by); len(by.List) > 0 && !value.Equal(greatest, sorted.List[len(sorted.List)-1]) {
			t.Fatalf("Greatest(%s) = %s", shown(by), shown(greatest))
		}
	}
}

// contains tells whether a contains b, of whichever kinds they are.
func contains(t *testing.T, a, b api.Value) bool {
	return must(t, collect.Contains, arr(a), arr(b)).Kind == api.True
}

func TestContainmentIsAnOrder(t *testing.T) {
	for _, v := range samples() {
		if v = withoutNaN(v); !contains(t, v, v) {
			t.Error(shown(v), "does not contain itself")
		}
	}
	r := rand.New(rand.NewSource(93))
	held := 0
	for range 40000 {
		a := withoutNaN(somewhat(r, 4))
		b := withoutNaN(lessened(r, a))
		c := withoutNaN(lessened(r, b))
		if !contains(t, a, a) {
			t.Fatal(shown(a), "does not contain itself")
		}
		if contains(t, a, b) && contains(t, b, c) {
			held++
			if !contains(t, a, c) {
				t.Fatal(shown(a), "contains", shown(b), "but not what that contains:", shown(c))
			}
		}
	}
	if held < 10000 {
		t.Error("too little is contained:", held)
	}
}

func TestTransposeTwice(t *testing.T) {
	r := rand.New(rand.NewSource(94))
	for range 10000 {
		v := arr()
		n := 1 + r.Intn(5)
		for range r.Intn(6) {
			v.List = append(v.List, someArray(r, n, 2))
		}
		once := must(t, alone(collect.Transpose), v, null)
		got, err := collect.Transpose(once)
		checkOutcome(t, "Transpose twice of "+shown(v), got, err, v, "")
	}
}

func TestSearchFindsEach(t *testing.T) {
	r := rand.New(rand.NewSource(95))
	for range 10000 {
		v := withoutNaN(someArray(r, r.Intn(20), 2))
		v = must(t, collect.Sort, v, v)
		for _, x := range v.List {
			at := must(t, collect.Search, v, x).Num
			if at < 0 || !value.Equal(v.List[int(at)], x) {
				t.Fatalf("Search(%s, %s) = %v", shown(v), shown(x), at)
			}
		}
		x := withoutNaN(somewhat(r, 2))
		if at := int(must(t, collect.Search, v, x).Num); at < 0 {
			grown := slices.Insert(slices.Clone(v.List), -1-at, x)
			if !slices.IsSortedFunc(grown, value.Compare) {
				t.Fatalf("Search(%s, %s) = %v", shown(v), shown(x), at)
			}
		}
	}
}

// The rules: what is handed in is not changed and not kept; an answer is right, and the caller's own.

// calls does all calls with what is handed in, and gives what each answers.
func calls(v, x api.Value, give func(name string, answer []api.Value)) {
	all := map[string]call{
		"Length": alone(collect.Length), "Keys": keys, "Has": collect.Has, "Contains": collect.Contains,
		"Flatten": collect.Flatten, "Indices": collect.Indices, "Transpose": alone(collect.Transpose), "Search": collect.Search,
	}
	for name, c := range byKeys() {
		all[name] = c.do
	}
	for name, do := range all {
		got, err := do(v, x)
		give(name, []api.Value{got, err.V})
	}
}

func checkAnswers(t *testing.T, v, x api.Value) {
	t.Helper()
	v, x = apart(v), apart(x)
	given := arr(v, x)
	old := apart(given)
	calls(v, x, func(name string, answer []api.Value) {
		name += " of " + shown(old)
		if !same(given, old) || !untouched(v) || !untouched(x) {
			t.Fatalf("%s changes what is handed in: %s", name, shown(given))
		}
		if !value.Right(arr(answer...)) {
			t.Fatalf("%s is not right: %s", name, shown(answer...))
		}
		checkOwn(t, name, answer, v, x)
	})
}

func TestAnswersAreNew(t *testing.T) {
	for _, v := range samples() {
		for _, x := range samples() {
			checkAnswers(t, v, x)
		}
	}
	r := rand.New(rand.NewSource(96))
	for range 10000 {
		n := r.Intn(5)
		checkAnswers(t, someArray(r, n, 3), someKeys(r, n))
		checkAnswers(t, someArray(r, n, 3), yes)
		checkAnswers(t, someArray(r, n, 3), num(float64(r.Intn(4))))
	}
}

// TestOneValueTwice: where one value stands in several places of what is handed in, the answer still has several.
func TestOneValueTwice(t *testing.T) {
	x := val(`[{"a":[1,{"b":[2]}]},[3,[4]]]`)
	row := arr(x, x, x)
	for _, by := range []api.Value{row, counted(3), many(null, 3), num(0), num(1), yes} {
		calls(row, by, func(name string, answer []api.Value) {
			checkOwn(t, name, answer, row, by)
		})
	}
}

// TestListsWithRoom: a list that has room behind its end is not handed on with that.
func TestListsWithRoom(t *testing.T) {
	room, names := make([]api.Value, 3), make([]string, 3)
	for _, empty := range []api.Value{{Kind: api.Array, List: room[:0]}, {Kind: api.Object, List: room[:0], Keys: names[:0]}} {
		for _, v := range []api.Value{empty, arr(empty), obj("a", empty)} {
			for _, x := range []api.Value{empty, arr(empty), num(0), num(1), yes} {
				calls(v, x, func(name string, answer []api.Value) {
					checkOwn(t, name, answer, v, x)
					for _, got := range append(answer, arr(answer...).List...) {
						for i := range got.List[:cap(got.List)] {
							got.List[:cap(got.List)][i] = str("spoilt")
						}
					}
				})
			}
		}
	}
	if !sameRow(room, make([]api.Value, 3)) || !slices.Equal(names, make([]string, 3)) {
		t.Error("the room was handed on")
	}
}

// TestSameAnswers: the same call on the same arguments answers the same, also where NaN leaves an order open.
func TestSameAnswers(t *testing.T) {
	r := rand.New(rand.NewSource(97))
	for range 300 {
		n := r.Intn(40)
		v, by := someArray(r, n, 2), someKeys(r, n)
		first := map[string]string{}
		for range 3 {
			calls(v, by, func(name string, answer []api.Value) {
				text := value.Text(arr(answer...))
				if old, ok := first[name]; ok && old != text {
					t.Fatalf("%s of %s: %s, and %s", name, shown(v, by), old, text)
				}
				first[name] = text
			})
		}
	}
}
