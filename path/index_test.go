package path_test

import (
	"math/rand"
	"testing"
	"time"

	"colander/api"
	"colander/path"
	"colander/value"
)

// P7.1

func checkIndex(t *testing.T, v, key api.Value) {
	t.Helper()
	got, err := path.Index(v, key)
	want, complaint := indexOf(v, key)
	checkOutcome(t, "Index("+shown(v)+", "+shown(key)+")", got, err, want, complaint)
}

func TestIndexByHand(t *testing.T) {
	for _, x := range []struct{ v, key, want string }{
		{`[1,2,3]`, `-1`, `3`},
		{`{"a":1}`, `"a"`, `1`},
		{`{"a":1}`, `"b"`, `null`},
		{`{"a":1,"":2}`, `""`, `2`},
		{`{}`, `"a"`, `null`},
		{`[1,2,3]`, `0`, `1`},
		{`[1,2,3]`, `-0`, `1`},
		{`[1,2,3]`, `2`, `3`},
		{`[1,2,3]`, `3`, `null`},
		{`[1,2,3]`, `1.9`, `2`},
		{`[1,2,3]`, `2.9`, `3`},
		{`[1,2,3]`, `-0.5`, `3`},
		{`[1,2,3]`, `-1.5`, `2`},
		{`[1,2,3]`, `-2.5`, `1`},
		{`[1,2,3]`, `-3`, `1`},
		{`[1,2,3]`, `-3.5`, `null`},
		{`[1,2,3]`, `-4`, `null`},
		{`[1,2,3]`, `nan`, `null`},
		{`[1,2,3]`, `1e1000`, `null`},
		{`[1,2,3]`, `-1e1000`, `null`},
		{`[1,2,3]`, `1e300`, `null`},
		{`[1,2,3]`, `-1e300`, `null`},
		{`[]`, `0`, `null`},
		{`[]`, `-1`, `null`},
		{`null`, `"a"`, `null`},
		{`null`, `0`, `null`},
		{`null`, `nan`, `null`},
		{`null`, `{"start":1,"end":2}`, `null`},
		{`null`, `{"end":"a","start":[]}`, `null`},
		{`null`, `{"a":1}`, `null`},
		{`[1,2,3]`, `{"start":1,"end":2}`, `[2]`},
		{`[1,2,3]`, `{"start":1}`, `[2,3]`},
		{`[1,2,3]`, `{"end":1}`, `[1]`},
		{`[1,2,3]`, `{}`, `[1,2,3]`},
		{`[1,2,3]`, `{"start":null,"end":-1,"more":0}`, `[1,2]`},
		{`"abc"`, `{"start":-2,"end":null}`, `"bc"`},
		{`"abc"`, `{"a":1}`, `"abc"`},
		{`[1,2,1,2,1]`, `[1]`, `[0,2,4]`},
		{`[1,2,1,2,1]`, `[1,2]`, `[0,2]`},
		{`[1,2,1,2,1]`, `[1,2,1]`, `[0,2]`},
		{`[0,0,0]`, `[0,0]`, `[0,1]`},
		{`[0,-0]`, `[-0]`, `[0,1]`},
		{`[1,2]`, `[]`, `[]`},
		{`[]`, `[]`, `[]`},
		{`[]`, `[1]`, `[]`},
		{`[1,2]`, `[1,2,3]`, `[]`},
		{`[1,2]`, `[2,1]`, `[]`},
		{`[nan,nan]`, `[nan]`, `[]`},
		{`[[nan],1]`, `[[nan],1]`, `[]`},
		{`[nan,1]`, `[1]`, `[1]`},
		{`[{"a":1,"b":2},{"b":2,"a":1}]`, `[{"a":1,"b":2}]`, `[0,1]`},
		{`[[1],[1,2]]`, `[[1]]`, `[0]`},
	} {
		got, err := path.Index(val(x.v), val(x.key))
		checkOutcome(t, "Index("+x.v+", "+x.key+")", got, err, val(x.want), "")
	}
}

func TestIndexRefusesByHand(t *testing.T) {
	for _, x := range []struct{ v, key, want string }{
		{`1`, `"a"`, `Cannot index number with "a"`},
		{`{"a":1}`, `0`, `Cannot index object with number`},
		{`true`, `""`, `Cannot index boolean with ""`},
		{`[]`, `"a\"b\n"`, "Cannot index array with \"a\"b\n\""},
		{`"abc"`, `"a"`, `Cannot index string with "a"`},
		{`"abc"`, `0`, `Cannot index string with number`},
		{`null`, `null`, `Cannot index null with null`},
		{`null`, `true`, `Cannot index null with boolean`},
		{`null`, `[0]`, `Cannot index null with array`},
		{`[1]`, `null`, `Cannot index array with null`},
		{`[1]`, `false`, `Cannot index array with boolean`},
		{`{}`, `{"start":0,"end":1}`, `Cannot index object with object`},
		{`{}`, `[]`, `Cannot index object with array`},
		{`5`, `{"start":0,"end":1}`, `Cannot index number with object`},
		{`false`, `{}`, `Cannot index boolean with object`},
		{`"abc"`, `["a"]`, `Cannot index string with array`},
		{`[1]`, `{"start":"a","end":1}`, `Start and end indices of an array slice must be numbers`},
		{`""`, `{"start":0,"end":{}}`, `Start and end indices of an array slice must be numbers`},
	} {
		got, err := path.Index(val(x.v), val(x.key))
		checkOutcome(t, "Index("+x.v+", "+x.key+")", got, err, null, x.want)
	}
}

func TestIndexAsTheModel(t *testing.T) {
	for _, v := range samples() {
		for _, key := range samples() {
			checkIndex(t, v, key)
		}
	}
	r := rand.New(rand.NewSource(71))
	for range 100000 {
		checkIndex(t, somewhat(r, 3), someKey(r))
	}
}

// TestPlacesOfParts looks for all short rows of few values in others, as a row that begins anew within itself is where a quick search goes wrong.
func TestPlacesOfParts(t *testing.T) {
	var rows [][]api.Value
	var grow func(row []api.Value, left int)
	grow = func(row []api.Value, left int) {
		rows = append(rows, row)
		for _, x := range []api.Value{num(0), num(1), nan} {
			if left > 0 {
				grow(append(row[:len(row):len(row)], x), left-1)
			}
		}
	}
	grow(nil, 5)
	r := rand.New(rand.NewSource(72))
	for _, inner := range rows {
		for range 30 {
			list := arr()
			for len(list.List) < 12 {
				list.List = append(list.List, num(float64(r.Intn(2))))
				if r.Intn(2) == 0 {
					list.List = append(list.List, inner...)
				}
				if r.Intn(10) == 0 {
					list.List = append(list.List, nan)
				}
			}
			checkIndex(t, list, arr(inner...))
		}
	}
}

func TestManyPlaces(t *testing.T) {
	zeros := many(num(0), api.MaxNodes)
	got, err := path.Index(zeros, arr(num(0)))
	checkOutcome(t, "as many places as are too large", got, err, null, "value is too large")
	zeros.List = zeros.List[1:]
	got, err = path.Index(zeros, arr(num(0)))
	checkOutcome(t, "as many places as may be", got, err, counted(api.MaxNodes-1), "")
	far := many(num(0), 3*api.MaxNodes)
	got, err = path.Index(far, num(3*api.MaxNodes-1))
	checkOutcome(t, "the last place of a large array", got, err, num(0), "")
	got, err = path.Index(far, arr(num(1)))
	checkOutcome(t, "no place in a large array", got, err, arr(), "")
	start := time.Now()
	got, err = path.Index(zeros, many(num(0), api.MaxNodes/2))
	checkOutcome(t, "a long part", got, err, counted(api.MaxNodes/2), "")
	if d := time.Since(start); d > 5*time.Second {
		t.Error("slow:", d)
	}
}

// P7.2

func TestSliceByHand(t *testing.T) {
	for _, x := range []struct{ v, from, to, want string }{
		{`[1,2,3,4]`, `1.5`, `null`, `[2,3,4]`},
		{`"abc"`, `-2`, `null`, `"bc"`},
		{`null`, `0`, `1`, `null`},
		{`null`, `"a"`, `{}`, `null`},
		{`[1,2,3]`, `null`, `null`, `[1,2,3]`},
		{`[1,2,3]`, `0`, `3`, `[1,2,3]`},
		{`[1,2,3]`, `0`, `99`, `[1,2,3]`},
		{`[1,2,3]`, `-99`, `2`, `[1,2]`},
		{`[1,2,3]`, `-99`, `-99`, `[]`},
		{`[1,2,3]`, `99`, `99`, `[]`},
		{`[1,2,3]`, `1`, `1`, `[]`},
		{`[1,2,3]`, `2`, `1`, `[]`},
		{`[1,2,3]`, `-1`, `null`, `[3]`},
		{`[1,2,3]`, `-3`, `-1`, `[1,2]`},
		{`[1,2,3]`, `0`, `0.5`, `[1]`},
		{`[1,2,3]`, `0.9`, `1.1`, `[1,2]`},
		{`[1,2,3]`, `-0.5`, `null`, `[3]`},
		{`[1,2,3]`, `-1.5`, `null`, `[2,3]`},
		{`[1,2,3]`, `null`, `-1.5`, `[1,2]`},
		{`[1,2,3]`, `null`, `-0.5`, `[]`},
		{`[1,2,3]`, `null`, `-0`, `[]`},
		{`[1,2,3]`, `nan`, `2`, `[1,2]`},
		{`[1,2,3]`, `1`, `nan`, `[2,3]`},
		{`[1,2,3]`, `nan`, `nan`, `[1,2,3]`},
		{`[1,2,3]`, `-1e1000`, `1e1000`, `[1,2,3]`},
		{`[1,2,3]`, `1e1000`, `-1e1000`, `[]`},
		{`[1,2,3]`, `-1e300`, `1e300`, `[1,2,3]`},
		{`[]`, `0`, `1`, `[]`},
		{`[]`, `-1`, `null`, `[]`},
		{`"é😀z"`, `1`, `2`, `"😀"`},
		{`"é😀z"`, `-1`, `null`, `"z"`},
		{`"é😀z"`, `null`, `-2`, `"é"`},
		{`"é😀z"`, `0.5`, `1.5`, `"é😀"`},
		{`"é😀z"`, `3`, `0`, `""`},
		{`""`, `null`, `null`, `""`},
	} {
		got, err := path.Slice(val(x.v), val(x.from), val(x.to))
		checkOutcome(t, "Slice("+x.v+", "+x.from+", "+x.to+")", got, err, val(x.want), "")
	}
	const ends = "Start and end indices of an array slice must be numbers"
	for _, x := range []struct{ v, from, to, want string }{
		{`[1]`, `"0"`, `1`, ends},
		{`[1]`, `0`, `true`, ends},
		{`[1]`, `[]`, `{}`, ends},
		{`[]`, `false`, `null`, ends},
		{`"abc"`, `null`, `"1"`, ends},
		{`true`, `0`, `1`, "Cannot index boolean with object"},
		{`5`, `null`, `null`, "Cannot index number with object"},
		{`{"a":1}`, `0`, `1`, "Cannot index object with object"},
		{`{}`, `"a"`, `1`, "Cannot index object with object"},
	} {
		got, err := path.Slice(val(x.v), val(x.from), val(x.to))
		checkOutcome(t, "Slice("+x.v+", "+x.from+", "+x.to+")", got, err, null, x.want)
	}
}

func TestSliceAsTheModel(t *testing.T) {
	check := func(v, from, to api.Value) {
		t.Helper()
		got, err := path.Slice(v, from, to)
		want, complaint := sliceOf(v, from, to)
		checkOutcome(t, "Slice("+shown(v, from, to)+")", got, err, want, complaint)
	}
	all := samples()
	for _, v := range all {
		for _, from := range all {
			for _, to := range all {
				check(v, from, to)
			}
		}
	}
	r := rand.New(rand.NewSource(73))
	for range 50000 {
		v := somewhat(r, 2)
		if r.Intn(3) == 0 {
			v = str("aé😀\u0000z"[:r.Intn(2)] + "aé😀\u0000z")
		}
		check(v, someNumber(r), someNumber(r))
	}
}

// P7.3

func TestEachByHand(t *testing.T) {
	for _, x := range []struct{ v, keys, values string }{
		{`[]`, `[]`, `[]`},
		{`{}`, `[]`, `[]`},
		{`[5,[6],null]`, `[0,1,2]`, `[5,[6],null]`},
		{`{"b":1,"a":{"c":2},"":null}`, `["b","a",""]`, `[1,{"c":2},null]`},
	} {
		keys, values, err := path.Each(val(x.v))
		if err.Is || !same(err.V, null) || !sameRow(keys, steps(x.keys)) || !sameRow(values, steps(x.values)) {
			t.Errorf("Each(%s) = %s, %s, %s", x.v, shown(keys...), shown(values...), shown(err.V))
		}
	}
	for text, want := range map[string]string{
		`null`:                        "Cannot iterate over null (null)",
		`true`:                        "Cannot iterate over boolean (true)",
		`false`:                       "Cannot iterate over boolean (false)",
		`-1.5`:                        "Cannot iterate over number (-1.5)",
		`nan`:                         "Cannot iterate over number (null)",
		`"a"`:                         `Cannot iterate over string ("a")`,
		`"abcdefghijklmnopqrstuvwxy"`: `Cannot iterate over string ("abcdefghijklmnopqrst...)`,
	} {
		keys, values, err := path.Each(val(text))
		if len(keys) > 0 || len(values) > 0 {
			t.Errorf("Each(%s) = %s, %s", text, shown(keys...), shown(values...))
		}
		checkOutcome(t, "Each("+text+")", null, err, null, want)
	}
}

func TestEachIsIndexed(t *testing.T) {
	r := rand.New(rand.NewSource(74))
	for range 20000 {
		v := somewhat(r, 3)
		keys, values, err := path.Each(v)
		if err.Is == (v.Kind == api.Array || v.Kind == api.Object) || len(keys) != len(v.List) || !sameRow(values, v.List) {
			t.Fatalf("Each(%s) = %s, %s, %v", shown(v), shown(keys...), shown(values...), err)
		}
		for i, key := range keys {
			if x, err := path.Index(v, key); err.Is || !same(x, values[i]) {
				t.Fatalf("Index(%s, %s) = %s, %v", shown(v), shown(key), shown(x), err)
			}
			if has, err := path.Has(v, key); err.Is || !has {
				t.Fatalf("Has(%s, %s) = %v, %v", shown(v), shown(key), has, err)
			}
		}
	}
}

func TestHasByHand(t *testing.T) {
	for _, x := range []struct {
		v, key string
		want   bool
	}{
		{`{"a":null}`, `"a"`, true},
		{`{"a":null}`, `"b"`, false},
		{`{"":1}`, `""`, true},
		{`{}`, `""`, false},
		{`[null]`, `0`, true},
		{`[null]`, `-0`, true},
		{`[null]`, `0.9`, true},
		{`[null]`, `1`, false},
		{`[null]`, `-1`, false},
		{`[null]`, `-0.5`, false},
		{`[1,2]`, `1.99`, true},
		{`[1,2]`, `2`, false},
		{`[1,2]`, `nan`, false},
		{`[1,2]`, `1e1000`, false},
		{`[1,2]`, `-1e1000`, false},
		{`[]`, `0`, false},
	} {
		if got, err := path.Has(val(x.v), val(x.key)); got != x.want || err.Is || !same(err.V, null) {
			t.Errorf("Has(%s, %s) = %v, %s", x.v, x.key, got, shown(err.V))
		}
	}
	for _, x := range []struct{ v, key, want string }{
		{`{}`, `0`, "Cannot check whether object has a number key"},
		{`[1]`, `"a"`, "Cannot check whether array has a string key"},
		{`[1]`, `{"start":0,"end":1}`, "Cannot check whether array has a object key"},
		{`[1]`, `[1]`, "Cannot check whether array has a array key"},
		{`null`, `"a"`, "Cannot check whether null has a string key"},
		{`"abc"`, `0`, "Cannot check whether string has a number key"},
		{`true`, `false`, "Cannot check whether boolean has a boolean key"},
		{`1`, `null`, "Cannot check whether number has a null key"},
	} {
		got, err := path.Has(val(x.v), val(x.key))
		if got {
			t.Errorf("Has(%s, %s)", x.v, x.key)
		}
		checkOutcome(t, "Has("+x.v+", "+x.key+")", null, err, null, x.want)
	}
}

func TestHasAsTheModel(t *testing.T) {
	all := samples()
	r := rand.New(rand.NewSource(75))
	for range 200 {
		all = append(all, somewhat(r, 2), someKey(r))
	}
	for _, v := range all {
		for _, key := range all {
			got, err := path.Has(v, key)
			want, complaint := hasOf(v, key)
			if got != want {
				t.Fatalf("Has(%s, %s) = %v", shown(v), shown(key), got)
			}
			checkOutcome(t, "Has("+shown(v)+", "+shown(key)+")", null, err, null, complaint)
		}
	}
}

func TestErrorsOfGreatValues(t *testing.T) {
	// A name and a key are told, never the value: Each alone tells its beginning.
	great := str(string(make([]byte, api.MaxBytes)))
	_, _, err := path.Each(great)
	if want := "Cannot iterate over string (" + value.Short(great) + ")"; err.V.Str != want {
		t.Errorf("Each of a great string: %q", err.V.Str)
	}
	_, err = path.Index(great, great)
	if want := `Cannot index string with "` + great.Str + `"`; err.V.Str != want {
		t.Errorf("Index by a great string: %d bytes", len(err.V.Str))
	}
}
