package path_test

import (
	"math/rand"
	"strings"
	"testing"

	"colander/api"
	"colander/path"
)

const (
	large    = "value is too large"
	negative = "Out of bounds negative array index"
	tooFar   = "Array index too large"
	notArray = "A slice of an array can only be assigned another array"
	badEnds  = "Start and end indices of an array slice must be numbers"
)

// P7.4

func checkSet(t *testing.T, v, key, x api.Value) {
	t.Helper()
	got, err := path.Set(v, key, x)
	want, complaint := setOf(v, key, x)
	checkOutcome(t, "Set("+shown(v)+", "+shown(key)+", "+shown(x)+")", got, err, want, complaint)
}

func TestSetByHand(t *testing.T) {
	for _, x := range []struct{ v, key, x, want string }{
		{`{"a":1}`, `"a"`, `2`, `{"a":2}`},
		{`{"b":1,"a":2}`, `"b"`, `null`, `{"b":null,"a":2}`},
		{`{"b":1}`, `"a"`, `[3]`, `{"b":1,"a":[3]}`},
		{`{}`, `""`, `{}`, `{"":{}}`},
		{`null`, `"a"`, `1`, `{"a":1}`},
		{`null`, `0`, `1`, `[1]`},
		{`null`, `2`, `1`, `[null,null,1]`},
		{`null`, `0.9`, `1`, `[1]`},
		{`null`, `{"start":5,"end":7}`, `[1]`, `[1]`},
		{`null`, `{}`, `[]`, `[]`},
		{`[1,2,3]`, `0`, `9`, `[9,2,3]`},
		{`[1,2,3]`, `-0`, `9`, `[9,2,3]`},
		{`[1,2,3]`, `2.9`, `9`, `[1,2,9]`},
		{`[1,2,3]`, `-1`, `9`, `[1,2,9]`},
		{`[1,2,3]`, `-0.5`, `9`, `[1,2,9]`},
		{`[1,2,3]`, `-2.5`, `9`, `[9,2,3]`},
		{`[1,2,3]`, `-3`, `9`, `[9,2,3]`},
		{`[1,2,3]`, `3`, `9`, `[1,2,3,9]`},
		{`[1,2,3]`, `5`, `9`, `[1,2,3,null,null,9]`},
		{`[]`, `1`, `null`, `[null,null]`},
		{`[1,2,3]`, `{"start":1,"end":null}`, `[9]`, `[1,9]`},
		{`[1,2,3]`, `{"start":1,"end":2}`, `[]`, `[1,3]`},
		{`[1,2,3]`, `{"start":0,"end":1}`, `[7,8,9]`, `[7,8,9,2,3]`},
		{`[1,2,3]`, `{"start":-2,"end":-1}`, `[9]`, `[1,9,3]`},
		{`[1,2,3]`, `{"start":0.5,"end":1.5}`, `[9]`, `[9,3]`},
		{`[1,2,3]`, `{"start":2,"end":1}`, `[9]`, `[1,2,9,3]`},
		{`[1,2,3]`, `{"start":2,"end":2}`, `[9]`, `[1,2,9,3]`},
		{`[1,2,3]`, `{"start":99,"end":0}`, `[9]`, `[1,2,3,9]`},
		{`[1,2,3]`, `{"start":-99,"end":-99}`, `[9]`, `[9,1,2,3]`},
		{`[1,2,3]`, `{"start":nan,"end":0}`, `[9]`, `[9,1,2,3]`},
		{`[1,2,3]`, `{"start":2,"end":nan}`, `[9]`, `[1,2,9]`},
		{`[1,2,3]`, `{"end":2}`, `[9]`, `[9,3]`},
		{`[1,2,3]`, `{"start":2}`, `[9]`, `[1,2,9]`},
		{`[1,2,3]`, `{"a":1}`, `[[9]]`, `[[9]]`},
	} {
		got, err := path.Set(val(x.v), val(x.key), val(x.x))
		checkOutcome(t, "Set("+x.v+", "+x.key+", "+x.x+")", got, err, val(x.want), "")
	}
}

func TestSetRefusesByHand(t *testing.T) {
	for _, x := range []struct{ v, key, x, want string }{
		{`[1,2,3]`, `-4`, `9`, negative},
		{`[1,2,3]`, `-3.5`, `9`, negative},
		{`[]`, `-1`, `9`, negative},
		{`[]`, `-0.5`, `9`, negative},
		{`null`, `-1`, `9`, negative},
		{`[1]`, `-1e1000`, `9`, negative},
		{`[1]`, `-1e300`, `9`, negative},
		{`[1]`, `nan`, `9`, tooFar},
		{`[1]`, `65536`, `9`, tooFar},
		{`[1]`, `65536.5`, `9`, tooFar},
		{`[1]`, `1e300`, `9`, tooFar},
		{`null`, `1e1000`, `9`, tooFar},
		{`null`, `65535.9`, `9`, large},
		{`null`, `65535`, `9`, large},
		{`[1]`, `{"start":0,"end":1}`, `9`, notArray},
		{`[1]`, `{"start":"a","end":1}`, `null`, notArray},
		{`null`, `{"start":0,"end":1}`, `{}`, notArray},
		{`[1]`, `{"start":"a","end":1}`, `[]`, badEnds},
		{`null`, `{"start":0,"end":"a"}`, `[]`, badEnds},
		{`[1]`, `"a"`, `9`, `Cannot index array with "a"`},
		{`[1]`, `[1]`, `9`, `Cannot index array with array`},
		{`[1]`, `null`, `9`, `Cannot index array with null`},
		{`{}`, `0`, `9`, `Cannot index object with number`},
		{`{}`, `{"start":0,"end":1}`, `[]`, `Cannot index object with object`},
		{`"abc"`, `{"start":0,"end":1}`, `[]`, `Cannot index string with object`},
		{`"abc"`, `0`, `9`, `Cannot index string with number`},
		{`5`, `"a\"b"`, `9`, `Cannot index number with "a"b"`},
		{`true`, `{}`, `[]`, `Cannot index boolean with object`},
		{`null`, `null`, `9`, `Cannot index null with null`},
		{`null`, `true`, `9`, `Cannot index null with boolean`},
		{`null`, `[0]`, `9`, `Cannot index null with array`},
	} {
		got, err := path.Set(val(x.v), val(x.key), val(x.x))
		checkOutcome(t, "Set("+x.v+", "+x.key+", "+x.x+")", got, err, null, x.want)
	}
}

func TestSetAsTheModel(t *testing.T) {
	all := samples()
	for _, v := range all {
		for _, key := range all {
			for _, x := range []api.Value{null, num(9), arr(), arr(num(8), num(9)), obj("a", yes)} {
				checkSet(t, v, key, x)
			}
		}
	}
	r := rand.New(rand.NewSource(76))
	for range 100000 {
		x := somewhat(r, 2)
		if r.Intn(2) == 0 {
			x = arr(x, num(9))
		}
		checkSet(t, somewhat(r, 3), someKey(r), x)
	}
}

func TestSetAtTheLimits(t *testing.T) {
	// An array of MaxNodes values, itself one, is the longest one.
	full := counted(api.MaxNodes - 1)
	far := counted(api.MaxNodes + 100)
	text := str(strings.Repeat("a", api.MaxBytes-3))
	deep := nested(null, api.MaxDepth-1)
	for _, x := range []struct {
		name      string
		v, key, x api.Value
		complaint string
	}{
		{"the last place", null, num(api.MaxNodes - 2), yes, ""},
		{"one place too many", null, num(api.MaxNodes - 1), yes, large},
		{"within a full array", full, num(-1), yes, ""},
		{"behind a full array", full, num(api.MaxNodes - 1), yes, large},
		{"a greater value in a full array", full, num(0), arr(yes), large},
		{"as many values for others", full, part(num(0), num(2)), arr(yes, yes), ""},
		{"more values for others", full, part(num(0), num(2)), arr(yes, yes, yes), large},
		{"a value in a large array", far, num(0), yes, large},
		{"far behind in a large array", far, num(api.MaxNodes), yes, tooFar},
		{"from the end of a large array", far, num(-1), yes, tooFar},
		{"fewer values in a large array", far, part(num(1), num(102)), arr(), ""},
		{"nothing of a large array", far, part(num(0), num(101)), arr(), ""},
		{"no fewer values in a large array", far, part(num(1), num(101)), arr(), large},
		{"a key with as many bytes as may be", obj("a", text), str("bc"), null, ""},
		{"a key with too many bytes", obj("a", text), str("bcd"), null, large},
		{"a string with too many bytes", obj("a", text), str("b"), str("cd"), large},
		{"a string for a long one", obj("a", text), str("a"), text, ""},
		{"levels", null, str("a"), nested(null, api.MaxDepth-2), ""},
		{"a level too many", null, str("a"), deep, large},
		{"a level too many in an array", arr(), num(0), deep, large},
		{"the levels of what is put for a slice", arr(), part(null, null), deep, ""},
	} {
		got, err := path.Set(x.v, x.key, x.x)
		want, complaint := setOf(x.v, x.key, x.x)
		if complaint != x.complaint {
			t.Fatalf("%s: the model says %q", x.name, complaint)
		}
		checkOutcome(t, x.name, got, err, want, complaint)
	}
}

// P7.5

func TestGetByHand(t *testing.T) {
	for _, x := range []struct{ v, path, want string }{
		{`5`, `[]`, `5`},
		{`null`, `[]`, `null`},
		{`null`, `["a",0,true,[1],null]`, `null`},
		{`{"a":[1,{"b":2}]}`, `["a",1,"b"]`, `2`},
		{`{"a":[1,{"b":2}]}`, `["a",-1]`, `{"b":2}`},
		{`{"a":null}`, `["a",true,false]`, `null`},
		{`{}`, `["a","b","c"]`, `null`},
		{`[1,2,3,4]`, `[{"start":1},{"end":-1},0]`, `2`},
		{`["abc"]`, `[0,{"start":1},{"start":1}]`, `"c"`},
		{`[1,2,1]`, `[[1],1]`, `2`},
	} {
		got, err := path.Get(val(x.v), steps(x.path))
		checkOutcome(t, "Get("+x.v+", "+x.path+")", got, err, val(x.want), "")
	}
	for _, x := range []struct{ v, path, want string }{
		{`5`, `["a"]`, `Cannot index number with "a"`},
		{`{"a":[1]}`, `["a","b",true]`, `Cannot index array with "b"`},
		{`{"a":[1]}`, `["a",0,0]`, `Cannot index number with number`},
		{`[1]`, `[{"start":"a"}]`, badEnds},
		{`false`, `[null]`, `Cannot index boolean with null`},
	} {
		got, err := path.Get(val(x.v), steps(x.path))
		checkOutcome(t, "Get("+x.v+", "+x.path+")", got, err, null, x.want)
	}
	got, err := path.Get(num(1), nil)
	checkOutcome(t, "Get without a path", got, err, num(1), "")
}

func TestPutByHand(t *testing.T) {
	for _, x := range []struct{ v, path, x, want string }{
		{`null`, `["a",2]`, `1`, `{"a":[null,null,1]}`},
		{`5`, `[]`, `6`, `6`},
		{`null`, `[]`, `null`, `null`},
		{`{"a":[1,{"b":2}]}`, `["a",1,"b"]`, `9`, `{"a":[1,{"b":9}]}`},
		{`{"a":[1,{"b":2}]}`, `["a",-1]`, `9`, `{"a":[1,9]}`},
		{`{"a":[1]}`, `["b","c"]`, `9`, `{"a":[1],"b":{"c":9}}`},
		{`{"a":null}`, `["a",0]`, `9`, `{"a":[9]}`},
		{`[1,2,3,4]`, `[{"start":1,"end":3},1]`, `9`, `[1,2,9,4]`},
		{`[1,2,3,4]`, `[{"start":1,"end":3},{"start":1}]`, `[8,9]`, `[1,2,8,9,4]`},
		{`[1,2,3,4]`, `[{"start":1,"end":3},3]`, `9`, `[1,2,3,null,9,4]`},
		{`[1,2]`, `[{"start":5},0]`, `9`, `[1,2,9]`},
		{`null`, `[{"start":5},{"start":1},0]`, `9`, `[9]`},
		{`null`, `[0,{"end":1},0,"a"]`, `9`, `[[{"a":9}]]`},
	} {
		got, err := path.Put(val(x.v), steps(x.path), val(x.x))
		checkOutcome(t, "Put("+x.v+", "+x.path+", "+x.x+")", got, err, val(x.want), "")
	}
	got, err := path.Put(num(1), nil, arr())
	checkOutcome(t, "Put without a path", got, err, arr(), "")
}

// TestPutRefusesInOrder: of several complaints Index's on the way comes ahead of Set's on the way back, and of these the innermost one ahead of the others.
func TestPutRefusesInOrder(t *testing.T) {
	for _, x := range []struct{ v, path, x, want string }{
		{`5`, `["a"]`, `1`, `Cannot index number with "a"`},
		{`[{"a":1}]`, `[0,0,-1]`, `1`, `Cannot index object with number`},
		{`[{"a":1}]`, `[0,"a","b",-1]`, `1`, `Cannot index number with "b"`},
		{`null`, `[-1,-1]`, `1`, negative},
		{`null`, `[nan,-1]`, `1`, negative},
		{`null`, `[-1,nan]`, `1`, tooFar},
		{`null`, `[-1,65535]`, `1`, large},
		{`null`, `[true,65535]`, `1`, large},
		{`null`, `[true,-1]`, `1`, negative},
		{`null`, `[true,null]`, `1`, `Cannot index null with null`},
		{`null`, `[null,true]`, `1`, `Cannot index null with boolean`},
		{`null`, `[[1]]`, `1`, `Cannot index null with array`},
		{`[]`, `[-1,"a",65535]`, `1`, large},
		{`[]`, `[-1]`, `1`, negative},
		{`[1,1]`, `[[1],0]`, `1`, `Cannot index array with array`},
		{`[1,1]`, `[[1],-3]`, `1`, negative},
		{`[1,1]`, `[[1],0,0]`, `1`, `Cannot index number with number`},
		{`"abc"`, `[{"start":1}]`, `"x"`, `Cannot index string with object`},
		{`"abc"`, `[{"start":1},"a"]`, `"x"`, `Cannot index string with "a"`},
		{`[1]`, `[{"start":0}]`, `1`, notArray},
		{`[1]`, `[{"start":"a"}]`, `1`, badEnds},
		{`null`, `[{"start":"a"}]`, `1`, notArray},
		{`null`, `[{"start":"a"}]`, `[]`, badEnds},
		{`null`, `[{"start":"a"},"b"]`, `[]`, notArray},
		{`null`, `[{"start":"a"},-1]`, `[]`, negative},
		{`null`, `[{"start":0},"a"]`, `1`, notArray},
	} {
		got, err := path.Put(val(x.v), steps(x.path), val(x.x))
		checkOutcome(t, "Put("+x.v+", "+x.path+", "+x.x+")", got, err, null, x.want)
	}
}

func TestGetAndPutAsTheModel(t *testing.T) {
	r := rand.New(rand.NewSource(77))
	all := samples()
	for i := range 100000 {
		v := somewhat(r, 4)
		if i%10 == 0 {
			v = all[r.Intn(len(all))]
		}
		p, x := somePath(r, v, 5), somewhat(r, 2)
		got, err := path.Get(v, p)
		want, complaint := getOf(v, p)
		checkOutcome(t, "Get("+shown(v)+", "+shown(p...)+")", got, err, want, complaint)
		got, err = path.Put(v, p, x)
		want, complaint = putOf(v, p, x)
		checkOutcome(t, "Put("+shown(v)+", "+shown(p...)+", "+shown(x)+")", got, err, want, complaint)
	}
}

func TestLongPaths(t *testing.T) {
	long := many(str("a"), api.MaxPath+1).List
	got, err := path.Put(null, long, yes)
	checkOutcome(t, "Put with a path that is too long", got, err, null, "Path is too long")
	got, err = path.Put(num(1), long, yes)
	checkOutcome(t, "Put with a path that is too long and leads nowhere", got, err, null, "Path is too long")
	for _, key := range []api.Value{str("a"), num(1), part(null, null)} {
		p := many(key, api.MaxPath).List
		x := arr(yes)
		got, err := path.Put(null, p, x)
		want, complaint := putOf(null, p, x)
		checkOutcome(t, "Put with the longest path", got, err, want, complaint)
		got, err = path.Get(got, p)
		checkOutcome(t, "Get of the longest path", got, err, x, "")
	}
	// Get has no longest path.
	deep := nested(yes, api.MaxDepth-1)
	got, err = path.Get(deep, many(num(0), api.MaxDepth-1).List)
	checkOutcome(t, "Get of the innermost value", got, err, yes, "")
	got, err = path.Get(deep, many(num(0), api.MaxDepth).List)
	checkOutcome(t, "Get of what is within a boolean", got, err, null, "Cannot index boolean with number")
	got, err = path.Get(arr(yes), many(obj(""), 1000000).List)
	checkOutcome(t, "Get of a million slices", got, err, arr(yes), "")
}

func TestPutAtTheLimits(t *testing.T) {
	// What is put in the place of all is not held to any size; what stands within another value is, with that.
	huge := many(null, api.MaxNodes)
	got, err := path.Put(null, nil, huge)
	checkOutcome(t, "Put of a large value", got, err, huge, "")
	got, err = path.Put(null, []api.Value{str("a")}, huge)
	checkOutcome(t, "Put of a large value in an object", got, err, null, large)
	// Arrays within each other may not each be as long as one may be.
	got, err = path.Put(null, many(num(api.MaxNodes-2), api.MaxPath).List, yes)
	checkOutcome(t, "Put far behind, again and again", got, err, null, large)
	// Nothing is left of what was large.
	got, err = path.Put(arr(huge, yes), []api.Value{num(0)}, null)
	checkOutcome(t, "Put in the place of a large value", got, err, arr(null, yes), "")
	got, err = path.Put(arr(huge, yes), []api.Value{num(1)}, null)
	checkOutcome(t, "Put beside a large value", got, err, null, large)
	got, err = path.Put(arr(huge, yes), []api.Value{num(0), num(-1)}, null)
	checkOutcome(t, "Put within a large value", got, err, null, large)
}
