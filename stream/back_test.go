package stream_test

import (
	"math"
	"math/rand"
	"testing"
	"time"

	"colander/api"
	"colander/stream"
	"colander/value"
)

// P6.2

func TestBackByHand(t *testing.T) {
	for events, want := range map[string]string{
		``:                                ``,
		`[[],3]`:                          `3`,
		`[[],null] [[],[]] [[],{}]`:       `null [] {}`,
		`[[0],1] [[0]]`:                   `[1]`,
		`[[0],1] [[1,0],2] [[1,0]] [[1]]`: `[1,[2]]`,
		`[["a"],[]] [["b","c"],null] [["b","c"]] [["b"]]`:             `{"a":[],"b":{"c":null}}`,
		`[["b"],1] [["a"],2] [["a"]]`:                                 `{"b":1,"a":2}`,
		`[[0],1] [[0]] [[],5] [["a"],2] [["a"]]`:                      `[1] 5 {"a":2}`,
		`[[0,"a",0],1] [[0,"a",0]] [[0,"a"]] [[0]]`:                   `[{"a":[1]}]`,
		`[[0],[]] [[1],{}] [[1]]`:                                     `[[],{}]`,
		`[[],-0] [[0],-0] [[0]]`:                                      `-0 [-0]`,
		`[["0"],1] [["0"]]`:                                           `{"0":1}`,
		`[["a"],1] [["a"],2] [["a"]]`:                                 `{"a":2}`,
		`[["a"],1] [["b"],2] [["a"],3] [["a"]]`:                       `{"a":3,"b":2}`,
		`[["a",0],1] [["a",0]] [["a"],2] [["a"]]`:                     `{"a":2}`,
		`[["a"],2] [["a",0],1] [["a",0]] [["b"],5] [["b"]]`:           `{"a":[1],"b":5}`,
		`[["a","b"],1] [["a","b"]] [["a","c"],2] [["a","c"]]`:         ``,
		`[["a","b"],1] [["a","b"]] [["a","c"],2] [["a","c"]] [["a"]]`: `{"a":{"c":2}}`,
		`[["a"],1]`:                            ``,
		`[["a"],1] [["b"],1]`:                  ``,
		`[[],1] [["a"],1]`:                     `1`,
		`[[0],1] [[0]] [[0],1]`:                `[1]`,
		`[[0,0],1] [[0,0]]`:                    ``,
		`[[0,0],1] [[0,0]] [[1],1] [[1]]`:      `[[1],1]`,
		`[["a",0],1] [["a",1],2] [["a",1]]`:    ``,
		`[[0],1] [[1],1] [[2],1] [[3],1]`:      ``,
		`[[0],0] [[1],1] [[2],2] [[2]] [[],0]`: `[0,1,2] 0`,
	} {
		if got, e := stream.Back(vals(events)); e != api.OK || !sameRow(got, vals(want)) {
			t.Errorf("Back(%s) = %s, %d, want %s", events, shown(got...), e, want)
		}
		checkBack(t, vals(events))
	}
}

func TestBackRefuses(t *testing.T) {
	for _, events := range []string{
		// No events.
		`null`, `true`, `1`, `"a"`, `{}`, `{"a":1}`, `{"a":[0]}`, `{"a":["x"],"b":1}`, `[]`, `[1]`, `[null,1]`, `["a",1]`, `[{},1]`, `[{"a":1},1]`, `[[],1,2]`, `[[],1,null]`, `[[0],1,2]`,
		`[[null],1]`, `[[true],1]`, `[[false],1]`, `[[[]],1]`, `[[[0]],1]`, `[[{}],1]`, `[[0,null],1]`, `[[null,0],1]`, `[[0,[1]],1]`,
		`[[],[1]]`, `[[],{"a":1}]`, `[[0],[[]]]`, `[[0],{"a":[]}]`, `[[],[]] []`,
		// Ends of what is not open.
		`[[]]`, `[[0]]`, `[["a"]]`, `[[],1] [[]]`, `[[],1] [[0]]`, `[[0],1] [[]]`, `[[0],1] [[1]]`, `[[0],1] [["0"]]`, `[[0],1] [["a"]]`, `[["a"],1] [["b"]]`, `[["a"],1] [[0]]`,
		`[[0],1] [[0,0]]`, `[[0,0],1] [[0]]`, `[[0,0],1] [[1,0]]`, `[[0,0],1] [[0,1]]`, `[["a","b"],1] [["a","a"]]`, `[["a","b"],1] [["b","b"]]`, `[["a","b"],1] [["a"]]`,
		`[[0],1] [[0]] [[0]]`, `[[0,0],1] [[0,0]] [[0,0]]`, `[[0,0],1] [[0,0]] [[1]]`, `[[0,0],1] [[0,0]] [["a"]]`, `[[0],[]] [[0,0]]`, `[[0],1] [[0.5]]`,
		// Places that may not be.
		`[[1],1]`, `[[-1],1]`, `[[0.5],1]`, `[[1e300],1]`, `[[0,1],1]`, `[["a",1],1]`, `[[0],1] [[0],1]`, `[[0],1] [[2],1]`, `[[0],1] [[0.5],1]`, `[[0],1] [[1.5],1]`, `[[0],1] [[-1],1]`,
		`[[0],1] [[1,1],1]`, `[[0],1] [["a"],1]`, `[["a"],1] [[0],1]`, `[["a"],1] [[1],1]`, `[["a",0],1] [["a","b"],1]`, `[["a","b"],1] [["a",0],1]`, `[["a","b"],1] [["a",1],1]`,
		`[[0],1] [["1"],1]`, `[["0"],1] [[1],1]`,
		// Noughts with a sign, which are no places.
		`[[-0],null]`, `[[-0],1] [[-0]]`, `[[-0],1] [[0]]`, `[[0],1] [[-0]]`, `[[-0],[]]`, `[[0,-0],1]`, `[[-0,0],1]`, `[["a",-0],1]`, `[[-0,"a"],1]`,
		`[[0,0],1] [[-0,1],1]`, `[[0,0],1] [[0,-0]]`, `[[0,0],1] [[-0,0]]`, `[[0,0],1] [[0,0]] [[-0]]`, `[[0],1] [[1],1] [[-0]]`, `[["a"],1] [[-0]]`, `[["a"],1] [[-0],1]`,
		// Paths that leave what is open.
		`[[0],1] [[],1]`, `[[0,0],1] [[1],1]`, `[[0,0],1] [[0],1]`, `[[0,0],1] [[],1]`, `[[0,0],1] [[1,0],1]`, `[[0,0],1] [[1,1],1]`, `[["a","b"],1] [["b","b"],1]`, `[["a","b"],1] [["c"],1]`,
		`[["a",0],1] [["b",1],1]`, `[["a",0],1] [["a"],1]`, `[[0,0],1] [[0,0]] [[0,1],1]`, `[[0,0],1] [[0,0]] [[],1]`, `[[0,0,0],1] [[1,0,1],1]`, `[[0,0,0],1] [[0,1,1],1]`,
		`[[0,0,0],1] [[0,0,0]] [[0,0,1],1]`, `[["a","b","c"],1] [["x","b","d"],1]`, `[["a","b","c"],1] [["a","x","d"],1]`,
	} {
		l := vals(events)
		for _, l := range [][]api.Value{l, append(stream.Events(arr(num(1))), l...), append(vals(`[[],2]`), l...), append(l, leafAt(nil, null))} {
			if got, e := stream.Back(l); e != 60 || len(got) != 0 {
				t.Errorf("Back(%s) = %s, %d", shown(l...), shown(got...), e)
			}
			checkBack(t, l)
		}
	}
	for _, f := range []float64{math.NaN(), math.Inf(1), math.Inf(-1), 5e-324, math.MaxFloat64} {
		for _, l := range [][]api.Value{
			{arr(arr(num(f)), null)},
			{leafAt(pathOf(0), null), arr(arr(num(f)), null)},
			{leafAt(pathOf(0), null), arr(arr(num(f)))},
			{leafAt(joined(pathOf("a"), num(f)), null)},
		} {
			if got, e := stream.Back(l); e != 60 || len(got) != 0 {
				t.Errorf("Back(%s) = %s, %d", shown(l...), shown(got...), e)
			}
		}
	}
	if _, e := stream.Back([]api.Value{leafAt(pathOf(0, 0), nan), endAt(pathOf(0, 0)), leafAt(pathOf(1), nan)}); e != api.OK {
		t.Error("NaN may be a leaf")
	}
}

// TestBackOfAllShortRows has all rows of a few events, held against all that are events of some trees, or begin so.
func TestBackOfAllShortRows(t *testing.T) {
	const longest = 5
	var alphabet []api.Value
	var paths [][]api.Value
	for _, a := range []any{0, 1, "a"} {
		paths = append(paths, pathOf(a))
		for _, b := range []any{0, 1, "a"} {
			paths = append(paths, pathOf(a, b))
		}
	}
	alphabet = append(alphabet, leafAt(nil, null), endAt(nil))
	for _, p := range paths {
		alphabet = append(alphabet, leafAt(p, null), endAt(p))
	}
	good := map[string][]api.Value{}
	for _, l := range rowsOfTrees(longest) {
		var events, values []api.Value
		for _, of := range l {
			own := of.events()
			for n := range own {
				good[shownAll(append(events[:len(events):len(events)], own[:n]...))] = values
			}
			events = append(events[:len(events):len(events)], own...)
			values = append(values[:len(values):len(values)], of.value())
		}
		good[shownAll(events)] = values
	}
	n := 0
	var checkFrom func(l []api.Value)
	checkFrom = func(l []api.Value) {
		want, ok := good[shownAll(l)]
		got, e := stream.Back(l)
		if ok != (e == api.OK) || !sameRow(got, want) {
			t.Fatalf("Back(%s) = %s, %d, want %s, %v", shown(l...), shown(got...), e, shown(want...), ok)
		}
		if ok {
			n++
		}
		if len(l) == longest || !ok && len(l) > 3 {
			return
		}
		for _, e := range alphabet {
			checkFrom(append(l[:len(l):len(l)], e))
		}
	}
	checkFrom(nil)
	if n < 300 {
		t.Error("only", n, "rows are good")
	}
}

func shownAll(l []api.Value) string {
	return value.Text(arr(l...))
}

// rowsOfTrees answers all rows of trees of at most three levels, whose leaves are null and whose keys are a alone, the last tree of which is needed for n events.
func rowsOfTrees(n int) [][]tree {
	all := treesOf(n, 2)
	rows := [][]tree{nil}
	out := [][]tree{}
	for len(rows) > 0 {
		row := rows[0]
		rows = rows[1:]
		out = append(out, row)
		size := 0
		for _, of := range row {
			size += len(of.events())
		}
		if size >= n {
			continue
		}
		for _, of := range all {
			rows = append(rows, append(row[:len(row):len(row)], of))
		}
	}
	return out
}

// treesOf answers all trees of at most so many levels within, such whose parts have n events or more only where the last part is needed for it.
func treesOf(n, levels int) []tree {
	out := []tree{{leaf: null}}
	if levels == 0 {
		return out
	}
	within := treesOf(n, levels-1)
	rows := [][]tree{nil}
	for len(rows) > 0 {
		row := rows[0]
		rows = rows[1:]
		size := 0
		for _, of := range row {
			size += len(of.events())
		}
		if len(row) > 0 {
			array, object := tree{}, tree{}
			for i, of := range row {
				array.parts = append(array.parts, part{num(float64(i)), of})
				object.parts = append(object.parts, part{str("a"), of})
			}
			out = append(out, array, object)
		}
		if size >= n {
			continue
		}
		for _, of := range within {
			rows = append(rows, append(row[:len(row):len(row)], of))
		}
	}
	return out
}

// TestBackOfTrees has events of trees in which keys come again, cut off anywhere, and with one event turned.
func TestBackOfTrees(t *testing.T) {
	r := rand.New(rand.NewSource(63))
	good := 0
	for range 40000 {
		var l, want []api.Value
		for range r.Intn(3) {
			of := someTree(r, 4)
			l = append(l, of.events()...)
			want = append(want, of.value())
		}
		if got, e := stream.Back(l); e != api.OK || !sameRow(got, want) {
			t.Fatalf("Back(%s) = %s, %d, want %s", shown(l...), shown(got...), e, shown(want...))
		}
		if len(l) == 0 {
			continue
		}
		checkBack(t, l[:r.Intn(len(l))])
		l = apartRow(l)
		turn(r, l)
		checkBack(t, l)
		if _, e := stream.Back(l); e == api.OK {
			good++
		}
	}
	if good < 100 || good > 20000 {
		t.Error(good, "rows of turned events are good")
	}
}

// turn changes one event of a row, or puts it elsewhere.
func turn(r *rand.Rand, l []api.Value) {
	i := r.Intn(len(l))
	e := &l[i]
	path := &e.List[0].List
	parts := []api.Value{num(0), num(1), num(2), str("a"), str("b"), str(""), null, num(-1), minus, num(0.5), arr(), nan}
	switch r.Intn(8) {
	case 0:
		j := r.Intn(len(l))
		l[i], l[j] = l[j], l[i]
	case 1:
		l[i] = apart(l[r.Intn(len(l))])
	case 2:
		*path = append(*path, parts[r.Intn(len(parts))])
	case 3:
		*path = (*path)[:max(0, len(*path)-1)]
	case 4, 5:
		if len(*path) > 0 {
			(*path)[r.Intn(len(*path))] = parts[r.Intn(len(parts))]
		}
	case 6:
		e.List = append(e.List, somewhat(r, 1))
	case 7:
		e.List = e.List[:len(e.List)-1]
	}
}

// TestBackTellsNoughtsApart has rows of events that are good, and turns each 0 of a path, one at a time, into -0.
func TestBackTellsNoughtsApart(t *testing.T) {
	r := rand.New(rand.NewSource(65))
	turned := 0
	for range 5000 {
		var l []api.Value
		for range 1 + r.Intn(2) {
			l = append(l, someTree(r, 4).events()...)
		}
		l = apartRow(l[:r.Intn(len(l)+1)])
		if _, e := stream.Back(l); e != api.OK {
			t.Fatalf("Back(%s): %d", shown(l...), e)
		}
		for _, e := range l {
			path := e.List[0].List
			for i, key := range path {
				if !same(key, num(0)) {
					continue
				}
				path[i] = minus
				if got, e := stream.Back(l); e != 60 || len(got) != 0 {
					t.Fatalf("Back(%s) = %s, %d", shown(l...), shown(got...), e)
				}
				checkBack(t, l)
				path[i] = key
				turned++
			}
		}
	}
	if turned < 5000 {
		t.Error("only", turned, "noughts were turned")
	}
}

// TestBackOfDeepPaths has paths of as many parts as may be, and of one more.
func TestBackOfDeepPaths(t *testing.T) {
	for _, pattern := range []string{"a", "o", "ao"} {
		var path []api.Value
		for i := range 10000 {
			if pattern[i%len(pattern)] == 'a' {
				path = append(path, num(0))
			} else {
				path = append(path, str("k"))
			}
		}
		if got, e := stream.Back([]api.Value{leafAt(path[:9999], yes)}); e != api.OK || len(got) != 0 {
			t.Error(pattern, "a path of 9999 parts:", e)
		}
		if _, e := stream.Back([]api.Value{leafAt(path, yes)}); e != 60 {
			t.Error(pattern, "a path of 10000 parts:", e)
		}
		if _, e := stream.Back([]api.Value{leafAt(path[:9999], yes), endAt(path)}); e != 60 {
			t.Error(pattern, "an end of 10000 parts:", e)
		}
		l := []api.Value{leafAt(path[:9999], yes)}
		for n := 9999; n > 0; n-- {
			l = append(l, endAt(path[:n]))
		}
		// Lists of what is handed in may be one another's memory.
		got, e := stream.Back(l)
		if e != api.OK || len(got) != 1 {
			t.Fatal(pattern, e)
		}
		v := got[0]
		for i := range 9999 {
			if v.Kind == api.Array != (pattern[i%len(pattern)] == 'a') || len(v.List) != 1 {
				t.Fatal(pattern, i)
			}
			v = v.List[0]
		}
		if !same(v, yes) || !value.Right(got[0]) {
			t.Error(pattern, shown(v))
		}
		l[5000] = endAt(path[:4998])
		if _, e := stream.Back(l); e != 60 {
			t.Error(pattern, "an end of too few parts:", e)
		}
	}
}

func TestBackIsQuick(t *testing.T) {
	var l []api.Value
	for i := range 300000 {
		l = append(l, leafAt(pathOf("wide", value.Text(num(float64(i)))), num(1)))
	}
	l = append(l, endAt(l[len(l)-1].List[0].List), endAt(pathOf("wide")))
	for i := range 300000 {
		l = append(l, leafAt(pathOf(i), num(1)))
	}
	l = append(l, endAt(pathOf(299999)))
	for range 300000 {
		l = append(l, leafAt(pathOf("a"), num(1)))
	}
	start := time.Now()
	got, e := stream.Back(l)
	if d := time.Since(start); d > 20*time.Second {
		t.Error("slow:", d)
	}
	if e != api.OK || len(got) != 2 || len(got[0].List[0].List) != 300000 || len(got[1].List) != 300000 {
		t.Error(e, len(got))
	}
}

func TestBackIsNew(t *testing.T) {
	for _, v := range samples() {
		v = obj("some key,other", str("a text"), arr(v, obj("key", v)), v)
		v.Keys = []string{"some", "key", "other"}
		l := apartRow(append(stream.Events(v), stream.Events(v)...))
		kept := apartRow(l)
		got, e := stream.Back(l)
		if e != api.OK || !sameRow(got, []api.Value{v, v}) {
			t.Fatalf("Back of Events of %s: %s, %d", shown(v), shown(got...), e)
		}
		if shares(got, l) {
			t.Fatalf("values of %s stand in the events' memory", shown(l...))
		}
		spoil(got[0])
		if !same(got[1], v) {
			t.Fatalf("two values share a list")
		}
		spoil(got[1])
		spoilRow(got)
		if !sameRow(l, kept) {
			t.Fatalf("the events were changed")
		}
	}
}

// P6.3

func TestCutByHand(t *testing.T) {
	for _, x := range []struct {
		n    int
		e    string
		want string
	}{
		{0, `[["a"],1]`, `[["a"],1]`},
		{0, `[["a"]]`, `[["a"]]`},
		{0, `[[],1]`, ``},
		{0, `[[]]`, ``},
		{1, `[["a",0],5]`, `[[0],5]`},
		{1, `[["a",0]]`, `[[0]]`},
		{1, `[["a"]]`, ``},
		{1, `[["a"],1]`, ``},
		{1, `[[],1]`, ``},
		{2, `[[1,2,3,4],[]]`, `[[3,4],[]]`},
		{3, `[[1,2,3,4],{}]`, `[[4],{}]`},
		{4, `[[1,2,3,4],{}]`, ``},
		{5, `[[1,2,3,4],{}]`, ``},
		{-1, `[["a"],1]`, `[["a"],1]`},
		{-1, `[[],1]`, ``},
		{math.MinInt, `[["a",0],null]`, `[["a",0],null]`},
		{math.MaxInt, `[["a",0],null]`, ``},
		{0, `[[-0,1.5,-7,"",1e300],false]`, `[[-0,1.5,-7,"",1e300],false]`},
		{1, `[[5,5],"x"]`, `[[5],"x"]`},
	} {
		want, wantOk := null, x.want != ""
		if wantOk {
			want = val(x.want)
		}
		if got, ok := stream.Cut(x.n, val(x.e)); ok != wantOk || !same(got, want) {
			t.Errorf("Cut(%d, %s) = %s, %v, want %s, %v", x.n, x.e, shown(got), ok, shown(want), wantOk)
		}
	}
	if got, ok := stream.Cut(1, leafAt([]api.Value{nan, nan, inf}, nan)); !ok || !same(got, leafAt([]api.Value{nan, inf}, nan)) {
		t.Error("any number may be in a path", shown(got))
	}
}

func TestCutOfWhatIsNoEvent(t *testing.T) {
	l := vals(`null true 1 "a" {} [] {"a":[[0],1]} {"a":[0]} {"a":["x","y"],"b":1} [1] ["a"] ["ab",1] [{}] [{"a":1},1] [[0],1,2] [[0],1,null] [[0],[1]] [[0],{"a":1}] [[0],[[]]]
		[[null],1] [[0,null],1] [[null,0],1] [[0,true],1] [[0,[]],1] [[0,{}],1] [[0,[1]]] [[false,0]] [[{"a":1},0],1] [[[0],0],1]`)
	for _, e := range l {
		for _, n := range []int{-1, 0, 1, 2} {
			if got, ok := stream.Cut(n, e); ok || !same(got, null) {
				t.Errorf("Cut(%d, %s) = %s, %v", n, shown(e), shown(got), ok)
			}
		}
	}
	var path []api.Value
	for range 10000 {
		path = append(path, str("k"))
	}
	for _, e := range []api.Value{leafAt(path, null), endAt(path)} {
		for _, n := range []int{0, 1, 5000, 9999, 10000} {
			if got, ok := stream.Cut(n, e); ok || !same(got, null) {
				t.Errorf("Cut(%d, ..) of a path of 10000 parts: %v", n, ok)
			}
		}
	}
	for _, e := range []api.Value{leafAt(path[:9999], null), endAt(path[:9999])} {
		for _, n := range []int{-3, 0, 1, 5000, 9998, 9999, 10000} {
			got, ok := stream.Cut(n, e)
			if ok != (n < 9999) || ok && (len(got.List) != len(e.List) || len(got.List[0].List) != 9999-max(0, n)) {
				t.Errorf("Cut(%d, ..) of a path of 9999 parts: %v", n, ok)
			}
		}
	}
}

// cutOf is P6.3's Cut.
func cutOf(n int, e api.Value) (api.Value, bool) {
	n = max(n, 0)
	if !isEvent(e) || len(e.List[0].List) <= n {
		return null, false
	}
	out := apart(e)
	out.List[0].List = out.List[0].List[n:]
	return out, true
}

func TestCutAsTheModel(t *testing.T) {
	r := rand.New(rand.NewSource(64))
	for range 20000 {
		l := someTree(r, 5).events()
		if r.Intn(2) == 0 {
			l = apartRow(l)
			turn(r, l)
		}
		e := l[r.Intn(len(l))]
		for n := -1; n < 7; n++ {
			want, wantOk := cutOf(n, e)
			if got, ok := stream.Cut(n, e); ok != wantOk || !same(got, want) {
				t.Fatalf("Cut(%d, %s) = %s, %v, want %s, %v", n, shown(e), shown(got), ok, shown(want), wantOk)
			}
		}
	}
}

func TestCutIsNew(t *testing.T) {
	for _, text := range []string{`[["first","key",2,"last"],"a leaf"]`, `[["first","key",2,"last"]]`, `[["first","key",2,"last"],[]]`} {
		for n := range 4 {
			e := apart(val(text))
			got, _ := stream.Cut(n, e)
			if shares([]api.Value{got}, []api.Value{e}) {
				t.Errorf("Cut(%d, %s) stands in its memory", n, text)
			}
			spoil(got)
			if !same(e, val(text)) {
				t.Errorf("Cut(%d, %s) is its own lists", n, text)
			}
		}
	}
}
