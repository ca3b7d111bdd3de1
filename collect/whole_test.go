package collect_test

import (
	"math/rand"
	"strconv"
	"strings"
	"testing"
	"time"

	"colander/api"
	"colander/collect"
)

// P8.1

// alone makes a call with two values of one with one value.
func alone(do func(v api.Value) (api.Value, api.Err)) call {
	return func(v, _ api.Value) (api.Value, api.Err) { return do(v) }
}

func modelAlone(as func(v api.Value) (api.Value, string)) model {
	return func(v, _ api.Value) (api.Value, string) { return as(v) }
}

// keys and keysModel are the calls of Keys: sorted, if the second value is true.
func keys(v, sorted api.Value) (api.Value, api.Err) {
	return collect.Keys(v, sorted.Kind == api.True)
}

func keysModel(v, sorted api.Value) (api.Value, string) {
	return keysOf(v, sorted.Kind == api.True)
}

func TestLengthByHand(t *testing.T) {
	checkRows(t, "Length", alone(collect.Length), modelAlone(lengthOf), []row{
		{`null`, `null`, `0`},
		{`5`, `null`, `5`},
		{`-5.5`, `null`, `5.5`},
		{`0`, `null`, `0`},
		{`-0`, `null`, `0`},
		{`nan`, `null`, `nan`},
		{`1e1000`, `null`, `1e1000`},
		{`-1e1000`, `null`, `1e1000`},
		{`""`, `null`, `0`},
		{`"abc"`, `null`, `3`},
		{`"é😀z"`, `null`, `3`},
		{`[]`, `null`, `0`},
		{`[[1,2],3]`, `null`, `2`},
		{`{}`, `null`, `0`},
		{`{"a":[1,2,3],"b":{"c":1}}`, `null`, `2`},
		{`true`, `null`, `!boolean (true) has no length`},
		{`false`, `null`, `!boolean (false) has no length`},
	})
}

func TestKeysByHand(t *testing.T) {
	checkRows(t, "Keys", keys, keysModel, []row{
		{`{"b":1,"a":2}`, `true`, `["a","b"]`},
		{`{"b":1,"a":2}`, `false`, `["b","a"]`},
		{`{"é":1,"z":2,"😀":3,"Z":4,"":5,"\uffff":6}`, `true`, `["","Z","z","é","\uffff","😀"]`},
		{`{"é":1,"z":2,"😀":3,"Z":4,"":5,"\uffff":6}`, `false`, `["é","z","😀","Z","","\uffff"]`},
		{`{"ab":1,"a":2,"b":{"c":3}}`, `true`, `["a","ab","b"]`},
		{`{}`, `true`, `[]`},
		{`{}`, `false`, `[]`},
		{`[]`, `true`, `[]`},
		{`[7,[8]]`, `true`, `[0,1]`},
		{`[7,[8]]`, `false`, `[0,1]`},
		{`null`, `true`, `!null (null) has no keys`},
		{`false`, `false`, `!boolean (false) has no keys`},
		{`-0`, `true`, `!number (-0) has no keys`},
		{`"abc"`, `true`, `!string ("abc") has no keys`},
		{`"abcdefghijklmnopqrstuvwxyz"`, `true`, `!string ("abcdefghijklmnopqrst...) has no keys`},
	})
}

func TestHasByHand(t *testing.T) {
	checkRows(t, "Has", collect.Has, hasOf, []row{
		{`{"a":null}`, `"a"`, `true`},
		{`{"a":null}`, `"b"`, `false`},
		{`{"a":null}`, `""`, `false`},
		{`{"":1}`, `""`, `true`},
		{`{}`, `"a"`, `false`},
		{`[1]`, `0`, `true`},
		{`[1]`, `-0`, `true`},
		{`[1]`, `0.5`, `true`},
		{`[1]`, `0.9999`, `true`},
		{`[1]`, `1`, `false`},
		{`[1]`, `-0.5`, `true`},
		{`[1]`, `-1`, `false`},
		{`[1]`, `nan`, `true`},
		{`[]`, `nan`, `false`},
		{`[]`, `0`, `false`},
		{`[1,2,3]`, `2.5`, `true`},
		{`[1,2,3]`, `3`, `false`},
		{`[1,2,3]`, `-3`, `false`},
		{`[1,2,3]`, `1e1000`, `false`},
		{`[1,2,3]`, `-1e1000`, `false`},
		{`[1,2,3]`, `1e300`, `false`},
		{`[1,2,3]`, `18446744073709551616`, `false`},
		{`[null]`, `0`, `true`},
		{`null`, `"a"`, `!Cannot check whether null has a string key`},
		{`null`, `0`, `!Cannot check whether null has a number key`},
		{`{}`, `0`, `!Cannot check whether object has a number key`},
		{`[]`, `"a"`, `!Cannot check whether array has a string key`},
		{`[0]`, `[0]`, `!Cannot check whether array has a array key`},
		{`[0]`, `null`, `!Cannot check whether array has a null key`},
		{`"abc"`, `0`, `!Cannot check whether string has a number key`},
		{`"abc"`, `"a"`, `!Cannot check whether string has a string key`},
		{`true`, `false`, `!Cannot check whether boolean has a boolean key`},
		{`{"a":1}`, `{"a":1}`, `!Cannot check whether object has a object key`},
	})
}

func TestWholesAsTheModel(t *testing.T) {
	checkSamples(t, "Length", alone(collect.Length), modelAlone(lengthOf))
	checkSamples(t, "Keys", keys, keysModel)
	checkSamples(t, "Has", collect.Has, hasOf)
	r := rand.New(rand.NewSource(81))
	for range 30000 {
		v, x := somewhat(r, 3), somewhat(r, 1)
		if r.Intn(3) == 0 {
			x = num(float64(r.Intn(41)-20) / 8)
		}
		checkAsModel(t, "Length", alone(collect.Length), modelAlone(lengthOf), v, null)
		checkAsModel(t, "Keys", keys, keysModel, v, yes)
		checkAsModel(t, "Keys", keys, keysModel, v, no)
		checkAsModel(t, "Has", collect.Has, hasOf, v, x)
	}
}

// manyKeys answers an object of n keys, of so many bytes each.
func manyKeys(n, size int) api.Value {
	out := obj("")
	for i := range n {
		key := strconv.Itoa(i)
		out.Keys = append(out.Keys, strings.Repeat("k", max(0, size-len(key)))+key)
		out.List = append(out.List, null)
	}
	return out
}

// checkTooLarge holds that an answer is, or is not, refused for its size alone.
func checkTooLarge(t *testing.T, name string, got api.Value, err api.Err, is bool) {
	t.Helper()
	if err.Is != is || is && (!same(err.V, str("value is too large")) || !same(got, null)) {
		t.Errorf("%s: %v %s", name, err.Is, shown(err.V))
	}
}

func TestKeysAreNotTooLarge(t *testing.T) {
	for _, sorted := range []bool{true, false} {
		for n, is := range map[int]bool{65535: false, 65536: true, 100000: true} {
			got, err := collect.Keys(many(null, n), sorted)
			checkTooLarge(t, "Keys of an array", got, err, is)
			got, err = collect.Keys(manyKeys(n, 1), sorted)
			checkTooLarge(t, "Keys of an object", got, err, is)
		}
		got, err := collect.Keys(manyKeys(1024, 1024), sorted)
		checkTooLarge(t, "Keys of as many bytes as may be", got, err, false)
		got, err = collect.Keys(manyKeys(1024, 1025), sorted)
		checkTooLarge(t, "Keys of more bytes", got, err, true)
		got, err = collect.Keys(obj("a", nested(many(str("text"), 70000), 10001)), sorted)
		checkTooLarge(t, "Keys of what is large within", got, err, false)
	}
}

// TestWhatIsLargeHasALength: what is asked of large values is not large.
func TestWhatIsLargeHasALength(t *testing.T) {
	large := many(str("text"), 100000)
	got, err := collect.Length(large)
	checkOutcome(t, "Length", got, err, num(100000), "")
	got, err = collect.Length(str(strings.Repeat("é", 2000000)))
	checkOutcome(t, "Length", got, err, num(2000000), "")
	got, err = collect.Has(large, num(99999))
	checkOutcome(t, "Has", got, err, yes, "")
	got, err = collect.Has(obj("a", large), str("a"))
	checkOutcome(t, "Has", got, err, yes, "")
	got, err = collect.Contains(large, arr(str("ex")))
	checkOutcome(t, "Contains", got, err, yes, "")
}

// checkQuick holds that something does not take long.
func checkQuick(t *testing.T, name string, do func()) {
	t.Helper()
	begin := time.Now()
	do()
	if took := time.Since(begin); took > 5*time.Second {
		t.Errorf("%s takes %v", name, took)
	}
}
