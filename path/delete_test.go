package path_test

import (
	"math/rand"
	"testing"
	"time"

	"colander/api"
	"colander/path"
)

// pathsIn answers the paths that an array's text writes.
func pathsIn(text string) [][]api.Value {
	var out [][]api.Value
	for _, p := range steps(text) {
		out = append(out, p.List)
	}
	return out
}

// wanted answers what a text tells: a value, or a complaint, which begins with a C.
func wanted(text string) (api.Value, string) {
	if text[0] == 'C' {
		return null, text
	}
	return val(text), ""
}

// P7.6

func checkDelete(t *testing.T, v api.Value, paths [][]api.Value) {
	t.Helper()
	got, err := path.Delete(v, paths)
	want, complaint := deleteOf(v, paths)
	checkOutcome(t, "Delete("+shown(v)+", "+shownPaths(paths)+")", got, err, want, complaint)
}

func TestDeleteByHand(t *testing.T) {
	for _, x := range []struct{ v, paths, want string }{
		{`[1,2,3]`, `[[0],[-1]]`, `[2]`},
		{`[1,2,3]`, `[]`, `[1,2,3]`},
		{`[1,2,3]`, `[[]]`, `null`},
		{`[1,2,3]`, `[[0],[]]`, `null`},
		{`[1,2,3]`, `[[],[0,0],[]]`, `Cannot delete fields from number`},
		{`null`, `[[]]`, `null`},
		{`null`, `[["a"],[0],[true,[1]],[{"start":"a"}]]`, `null`},
		{`{"a":1,"b":2}`, `[["a"]]`, `{"b":2}`},
		{`{"a":1,"b":2}`, `[["c"]]`, `{"a":1,"b":2}`},
		{`{"a":1,"b":2}`, `[["b"],["a"],["a"]]`, `{}`},
		{`[1,2,3]`, `[[0]]`, `[2,3]`},
		{`[1,2,3]`, `[[-0]]`, `[2,3]`},
		{`[1,2,3]`, `[[1.9]]`, `[1,3]`},
		{`[1,2,3]`, `[[-1]]`, `[1,2]`},
		{`[1,2,3]`, `[[-0.5]]`, `[1,2]`},
		{`[1,2,3]`, `[[-1.5]]`, `[1,3]`},
		{`[1,2,3]`, `[[3]]`, `[1,2,3]`},
		{`[1,2,3]`, `[[-4]]`, `[1,2,3]`},
		{`[1,2,3]`, `[[nan],[1e1000],[-1e1000]]`, `[1,2,3]`},
		{`[1,2,3]`, `[[0],[1],[2]]`, `[]`},
		{`[1,2,3]`, `[[2],[0],[1]]`, `[]`},
		{`[1,2,3]`, `[[0],[0]]`, `[3]`},
		{`[1,2,3]`, `[[1],[1.5]]`, `[1]`},
		{`[1,2,3]`, `[[-1],[-1]]`, `[1]`},
		{`[1,2,3,4]`, `[[-1],[-2]]`, `[1,3]`},
		{`[1,2,3]`, `[[-3],[2]]`, `[1,2]`},
		{`[1,2,3,4]`, `[[{"start":1,"end":3}]]`, `[1,4]`},
		{`[1,2,3,4]`, `[[{"start":-2}]]`, `[1,2]`},
		{`[1,2,3,4]`, `[[{"start":3,"end":1}]]`, `[1,2,3,4]`},
		{`[1,2,3,4]`, `[[{}]]`, `[]`},
		{`[1,2,3,4]`, `[[0],[{"start":0,"end":1}]]`, `[3,4]`},
		{`{"a":[1,{"b":2,"c":3}]}`, `[["a",1,"b"]]`, `{"a":[1,{"c":3}]}`},
		{`{"a":[1,{"b":2,"c":3}]}`, `[["a",1],["a",1,"b"]]`, `{"a":[1]}`},
		{`{"a":[1,{"b":2,"c":3}]}`, `[["a",0],["a",1,"b"]]`, `{"a":[{"c":3}]}`},
		{`{"a":1}`, `[["b","c"]]`, `{"a":1}`},
		{`{"a":null}`, `[["a","b"],["a",true]]`, `{"a":null}`},
		{`{"a":{"b":null}}`, `[["a","b","c"]]`, `{"a":{"b":null}}`},
		{`[1,2,3,4]`, `[[{"start":1,"end":3},0]]`, `[1,3,4]`},
		{`[1,2,3,4]`, `[[{"start":1,"end":3},0],[{"start":1,"end":3},1]]`, `[1,4]`},
		{`[1,2,3,4]`, `[[{"start":1},{"start":1},0]]`, `[1,2,4]`},
		{`[[1,2],[3,4]]`, `[[0,0],[1,0],[0,1]]`, `[[],[4]]`},
	} {
		want, complaint := wanted(x.want)
		got, err := path.Delete(val(x.v), pathsIn(x.paths))
		checkOutcome(t, "Delete("+x.v+", "+x.paths+")", got, err, want, complaint)
	}
}

func TestDeleteRefusesByHand(t *testing.T) {
	for _, x := range []struct{ v, paths, want string }{
		{`[1]`, `[["a"]]`, "Cannot delete field at object index of array"},
		{`{}`, `[[0]]`, "Cannot delete field at array index of object"},
		{`{}`, `[[{"start":0,"end":1}]]`, "Cannot delete fields from object"},
		{`{}`, `[[true]]`, "Cannot delete fields from object"},
		{`{}`, `[[[]]]`, "Cannot delete fields from object"},
		{`[1]`, `[[null]]`, "Cannot delete fields from array"},
		{`[1]`, `[[[1]]]`, "Cannot delete fields from array"},
		{`1`, `[["a"]]`, "Cannot delete fields from number"},
		{`"abc"`, `[[0]]`, "Cannot delete fields from string"},
		{`"abc"`, `[[{"start":0,"end":1}]]`, "Cannot delete fields from string"},
		{`false`, `[[0]]`, "Cannot delete fields from boolean"},
		{`[1]`, `[[{"start":"a","end":1}]]`, badEnds},
		{`[1]`, `[["a","b"]]`, `Cannot index array with "a"`},
		{`{"a":[1]}`, `[["a","b","c"]]`, `Cannot index array with "b"`},
		{`{"a":[1]}`, `[["a","b"]]`, "Cannot delete field at object index of array"},
		{`{"a":{"b":5}}`, `[["a","b","c"]]`, "Cannot delete fields from number"},
		{`[1,1]`, `[[[1],0]]`, "Cannot index array with array"},
		{`[1,1]`, `[[[1],5,5]]`, "Cannot index array with array"},
		{`[1,1]`, `[[[1],"a"]]`, "Cannot delete field at object index of array"},
		{`["abc"]`, `[[0,{"start":1},{"start":1}]]`, "Cannot delete fields from string"},
		{`[1]`, `[[{"start":"a","end":1},0]]`, badEnds},
		// The last path is the first one to be refused.
		{`[1,2]`, `[["a"],[true]]`, "Cannot delete field at object index of array"},
		{`{"a":1}`, `[["a",0],[0],["a","b"]]`, "Cannot delete fields from number"},
		{`{"a":1}`, `[["a"],[0]]`, "Cannot delete field at array index of object"},
		{`{"a":1}`, `[[],["a"],[0]]`, "Cannot delete field at array index of object"},
	} {
		got, err := path.Delete(val(x.v), pathsIn(x.paths))
		checkOutcome(t, "Delete("+x.v+", "+x.paths+")", got, err, null, x.want)
	}
}

// TestDeleteWithNaN: paths of which none is above the other are taken as they stand.
func TestDeleteWithNaN(t *testing.T) {
	for _, x := range []struct{ paths, want string }{
		{`[[{"start":nan},0],[{"start":nan},3]]`, `[1,2,3]`},
		{`[[{"start":nan},3],[{"start":nan},0]]`, `[1,2,4]`},
		{`[[{"start":nan,"end":1}],[{"start":nan,"end":2}]]`, `[3,4]`},
		{`[[{"start":nan,"end":nan}],[nan],[0]]`, `[]`},
		{`[[nan],[0],[-1]]`, `[1,2,3]`},
		{`[[nan,3],[nan,0],[0]]`, `[1,2,3,4]`},
		{`[[nan,"a"],[0,"a"]]`, `Cannot delete fields from number`},
	} {
		want, complaint := wanted(x.want)
		got, err := path.Delete(counted(5), pathsIn(x.paths))
		checkOutcome(t, "Delete of "+x.paths, got, err, want, complaint)
	}
	r := rand.New(rand.NewSource(78))
	ends := []api.Value{nan, nan, num(0), num(1), num(2), minus}
	end := func() api.Value { return ends[r.Intn(len(ends))] }
	for range 10000 {
		var paths [][]api.Value
		for range r.Intn(40) {
			p := []api.Value{part(end(), end())}
			if r.Intn(3) == 0 {
				p = []api.Value{obj("end start", end(), null)}
			}
			if r.Intn(2) == 0 {
				p = append(p, end())
			}
			paths = append(paths, p)
		}
		checkDelete(t, counted(12+r.Intn(60)), paths)
	}
}

func TestDeleteAsTheModel(t *testing.T) {
	all := samples()
	for _, v := range all {
		for _, key := range all {
			checkDelete(t, v, [][]api.Value{{key}})
			checkDelete(t, v, [][]api.Value{{key, num(0)}})
			checkDelete(t, v, [][]api.Value{{key}, {num(0)}, {str("a")}})
		}
	}
	r := rand.New(rand.NewSource(79))
	for i := range 100000 {
		v := somewhat(r, 4)
		if i%10 == 0 {
			v = all[r.Intn(len(all))]
		}
		var paths [][]api.Value
		for range r.Intn(6) {
			paths = append(paths, somePath(r, v, 4))
			if r.Intn(4) == 0 {
				paths = append(paths, paths[r.Intn(len(paths))])
			}
		}
		checkDelete(t, v, paths)
	}
}

// TestDeleteOfMany takes out some of what there is, told by paths in any order.
func TestDeleteOfMany(t *testing.T) {
	r := rand.New(rand.NewSource(80))
	for range 3000 {
		v := somewhat(r, 6)
		all := path.Paths(v)
		var some [][]api.Value
		for _, i := range r.Perm(len(all)) {
			if r.Intn(3) == 0 {
				some = append(some, all[i])
			}
		}
		checkDelete(t, v, some)
	}
}

func TestDeleteOfLargeValues(t *testing.T) {
	wide := counted(api.MaxNodes + 5)
	rows := arr(wide, obj("a b", num(1), num(2)))
	checkDelete(t, wide, nil)
	checkDelete(t, wide, pathsIn(`[[0],[-1],[70000],[{"start":5,"end":7}]]`))
	for text, complaint := range map[string]string{
		`[[1]]`:                                "",
		`[[1,"a"]]`:                            large,
		`[[1,"c"]]`:                            large,
		`[[1,"c",0]]`:                          large,
		`[[2,"a"]]`:                            "",
		`[[1,"a"],[0]]`:                        large,
		`[[0],[0,"a"]]`:                        "Cannot delete field at object index of array",
		`[[0,0],[1]]`:                          large,
		`[[0,{"start":0,"end":9}]]`:            large,
		`[[0,{"start":0,"end":100}]]`:          "",
		`[[0,{"start":0,"end":100}],[1,"a"]]`:  large,
		`[[0,{"start":0,"end":100}],[-1,"a"]]`: "",
		`[[{"start":0,"end":1},0,0]]`:          large,
		`[[[1],0]]`:                            "Cannot index array with array",
	} {
		paths := pathsIn(text)
		got, err := path.Delete(rows, paths)
		want, told := deleteOf(rows, paths)
		if complaint != told {
			t.Errorf("Delete of %s: the model says %q, want %q", text, told, complaint)
		}
		checkOutcome(t, "Delete of "+text, got, err, want, told)
	}
}

func TestDeleteByLongPaths(t *testing.T) {
	// No path is too long for Delete.
	deep := nested(arr(yes), api.MaxDepth-2)
	got, err := path.Delete(deep, [][]api.Value{many(num(0), api.MaxDepth-1).List})
	checkOutcome(t, "Delete of the innermost value", got, err, nested(arr(), api.MaxDepth-2), "")
	long := append(many(obj(""), 1000000).List, num(0))
	got, err = path.Delete(arr(yes, null), [][]api.Value{long})
	checkOutcome(t, "Delete by a million slices", got, err, arr(null), "")
}

func TestDeleteIsQuick(t *testing.T) {
	const n = api.MaxNodes - 1
	var all, inner [][]api.Value
	for i := range n {
		all = append(all, []api.Value{num(float64(i))})
	}
	rows := arr()
	for i := range n / 3 {
		rows.List = append(rows.List, obj("a b", yes, yes))
		inner = append(inner, []api.Value{num(float64(i)), str("a")})
	}
	start := time.Now()
	got, err := path.Delete(counted(n), all)
	checkOutcome(t, "Delete of all", got, err, arr(), "")
	got, err = path.Delete(rows, inner)
	checkOutcome(t, "Delete of all keys", got, err, many(obj("b", yes), n/3), "")
	if d := time.Since(start); d > 20*time.Second {
		t.Error("slow:", d)
	}
}

// P7.7

func TestPathsByHand(t *testing.T) {
	for text, want := range map[string]string{
		`null`:                          `[]`,
		`5`:                             `[]`,
		`"abc"`:                         `[]`,
		`[]`:                            `[]`,
		`{}`:                            `[]`,
		`[null]`:                        `[[0]]`,
		`[1,[2,[]],3]`:                  `[[0],[1],[1,0],[1,1],[2]]`,
		`{"b":1,"a":{"c":[2]}}`:         `[["b"],["a"],["a","c"],["a","c",0]]`,
		`[[[]]]`:                        `[[0],[0,0]]`,
		`{"":{"":null}}`:                `[[""],["",""]]`,
		`[{"z":1,"y":[false]},{"x":2}]`: `[[0],[0,"z"],[0,"y"],[0,"y",0],[1],[1,"x"]]`,
	} {
		if got := rowOf(path.Paths(val(text))); !same(got, val(want)) {
			t.Errorf("Paths(%s) = %s, want %s", text, shown(got), want)
		}
	}
}

func TestPathsAsTheModel(t *testing.T) {
	for _, v := range samples() {
		if got, want := path.Paths(v), pathsOf(v); !same(rowOf(got), rowOf(want)) {
			t.Errorf("Paths(%s) = %s", shown(v), shownPaths(got))
		}
	}
	r := rand.New(rand.NewSource(81))
	for range 10000 {
		v := somewhat(r, 5)
		if got, want := path.Paths(v), pathsOf(v); !same(rowOf(got), rowOf(want)) {
			t.Fatalf("Paths(%s) = %s", shown(v), shownPaths(got))
		}
	}
}

func TestPathsOfDeepValues(t *testing.T) {
	const levels = 1500
	got := path.Paths(nested(obj("a b", yes, arr(null)), levels))
	if len(got) != levels+3 {
		t.Fatal(len(got))
	}
	for i := range levels {
		if !sameRow(got[i], many(num(0), i+1).List) {
			t.Fatalf("path %d: %d steps", i, len(got[i]))
		}
	}
	if p := got[levels+2]; len(p) != levels+2 || !sameRow(p[levels:], steps(`["b",0]`)) {
		t.Fatalf("the last path has %d steps", len(p))
	}
}

func TestPathsOfWideValues(t *testing.T) {
	got := path.Paths(counted(400000))
	if len(got) != 400000 || !sameRow(got[399999], steps(`[399999]`)) {
		t.Fatal(len(got))
	}
}
