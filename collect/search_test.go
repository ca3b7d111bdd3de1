package collect_test

import (
	"math/rand"
	"strings"
	"testing"

	"colander/api"
	"colander/collect"
)

// P8.5

func TestIndicesByHand(t *testing.T) {
	checkRows(t, "Indices", collect.Indices, indicesOf, []row{
		{`[0,1,2,1,2]`, `[1,2]`, `[1,3]`},
		{`[0,1,2,1,2]`, `[2]`, `[2,4]`},
		{`[0,1,2,1,2]`, `2`, `[2,4]`},
		{`[0,1,2,1,2]`, `[]`, `[]`},
		{`[0,0,0]`, `[0,0]`, `[0,1]`},
		{`[0,0,1,0,0,0,1]`, `[0,0,1]`, `[0,4]`},
		{`[0,1,0,1,0]`, `[0,1,0]`, `[0,2]`},
		{`[]`, `[]`, `[]`},
		{`[]`, `[1]`, `[]`},
		{`[]`, `1`, `[]`},
		{`[1]`, `[1,1]`, `[]`},
		{`[-0,0]`, `0`, `[0,1]`},
		{`[-0,0]`, `[-0,-0]`, `[0]`},
		{`[nan,1]`, `nan`, `[]`},
		{`[nan,1]`, `[nan]`, `[]`},
		{`[nan,1,nan,1]`, `[1]`, `[1,3]`},
		{`[[1],1,[1]]`, `[[1]]`, `[0,2]`},
		{`[[1],1,[1]]`, `[1]`, `[1]`},
		{`[null,1,null]`, `null`, `[0,2]`},
		{`[true,false]`, `false`, `[1]`},
		{`["a","ab","a"]`, `"a"`, `[0,2]`},
		{`[{"a":1,"b":2},{"b":2,"a":1},{"a":1}]`, `{"a":1,"b":2}`, `[0,1]`},
		{`"a,b, cd, efg"`, `", "`, `[3,7]`},
		{`"aaa"`, `"aa"`, `[0,1]`},
		{`"é😀é😀z"`, `"😀"`, `[1,3]`},
		{`"é😀é😀z"`, `"z"`, `[4]`},
		{`"abc"`, `""`, `[]`},
		{`""`, `""`, `[]`},
		{`""`, `"a"`, `[]`},
		{`"abc"`, `"abcd"`, `[]`},
		{`null`, `null`, `null`},
		{`null`, `"a"`, `null`},
		{`null`, `[1]`, `null`},
		{`null`, `5`, `null`},
		{`"abc"`, `null`, `!Cannot determine the indices of null in string`},
		{`"abc"`, `["a"]`, `!Cannot determine the indices of array in string`},
		{`"1"`, `1`, `!Cannot determine the indices of number in string`},
		{`{"a":1}`, `"a"`, `!Cannot determine the indices of string in object`},
		{`{"a":1}`, `1`, `!Cannot determine the indices of number in object`},
		{`{}`, `{}`, `!Cannot determine the indices of object in object`},
		{`1`, `1`, `!Cannot determine the indices of number in number`},
		{`1`, `null`, `!Cannot determine the indices of null in number`},
		{`false`, `[false]`, `!Cannot determine the indices of array in boolean`},
	})
}

func TestIndicesAsTheModel(t *testing.T) {
	checkSamples(t, "Indices", collect.Indices, indicesOf)
	r := rand.New(rand.NewSource(88))
	few := vals(`0 -0 1 nan [0] [nan] "a" {"a":0} null`)
	someRow := func(n, kinds int) api.Value {
		out := arr()
		for range n {
			out.List = append(out.List, few[r.Intn(kinds)])
		}
		return out
	}
	for range 40000 {
		kinds := 2 + r.Intn(len(few)-1)
		v := someRow(r.Intn(30), kinds)
		checkAsModel(t, "Indices", collect.Indices, indicesOf, v, someRow(r.Intn(5), kinds))
		checkAsModel(t, "Indices", collect.Indices, indicesOf, v, few[r.Intn(len(few))])
	}
	someText := func(n int) api.Value {
		text := ""
		for range n {
			text += []string{"a", "b", "é", "😀"}[r.Intn(1+r.Intn(4))]
		}
		return str(text)
	}
	for range 20000 {
		checkAsModel(t, "Indices", collect.Indices, indicesOf, someText(r.Intn(20)), someText(r.Intn(4)))
	}
}

func TestIndicesAreNotTooLarge(t *testing.T) {
	for n, is := range map[int]bool{65535: false, 65536: true, 500000: true} {
		got, err := collect.Indices(many(yes, n), yes)
		checkTooLarge(t, "Indices of a value", got, err, is)
		got, err = collect.Indices(many(yes, n), arr(yes))
		checkTooLarge(t, "Indices of a row", got, err, is)
		got, err = collect.Indices(many(yes, n+1), arr(yes, yes))
		checkTooLarge(t, "Indices of a longer row", got, err, is)
		got, err = collect.Indices(str(strings.Repeat("a", n)), str("a"))
		checkTooLarge(t, "Indices of a text", got, err, is)
		got, err = collect.Indices(many(yes, n), no)
		checkOutcome(t, "Indices of what is not there", got, err, arr(), "")
	}
	got, err := collect.Indices(arr(many(yes, 100000), null), many(yes, 100000))
	checkOutcome(t, "Indices of a large row", got, err, arr(), "")
	got, err = collect.Indices(arr(many(yes, 100000), null), arr(many(yes, 100000)))
	checkOutcome(t, "Indices of a row of large ones", got, err, arr(num(0)), "")
}

func TestTransposeByHand(t *testing.T) {
	checkRows(t, "Transpose", alone(collect.Transpose), modelAlone(transposeOf), []row{
		{`[[1],[2,3]]`, `null`, `[[1,2],[null,3]]`},
		{`[[1,2],[3,4],[5,6]]`, `null`, `[[1,3,5],[2,4,6]]`},
		{`[[],[1,2,3],[4]]`, `null`, `[[null,1,4],[null,2,null],[null,3,null]]`},
		{`[[1,2,3]]`, `null`, `[[1],[2],[3]]`},
		{`[[[1]],[{"a":[2]}]]`, `null`, `[[[1],{"a":[2]}]]`},
		{`[[1,[2]],[[],{}]]`, `null`, `[[1,[]],[[2],{}]]`},
		{`[]`, `null`, `[]`},
		{`[[]]`, `null`, `[]`},
		{`[[],[]]`, `null`, `[]`},
		{`[[null]]`, `null`, `[[null]]`},
		{`null`, `null`, `!null (null) cannot be transposed`},
		{`{}`, `null`, `!object ({}) cannot be transposed`},
		{`{"a":[1]}`, `null`, `!object ({"a":[1]}) cannot be transposed`},
		{`"ab"`, `null`, `!string ("ab") cannot be transposed`},
		{`[1]`, `null`, `!array ([1]) cannot be transposed`},
		{`[[1],null]`, `null`, `!array ([[1],null]) cannot be transposed`},
		{`[[1],[2],{}]`, `null`, `!array ([[1],[2],{}]) cannot be transposed`},
		{`["ab",["c"]]`, `null`, `!array (["ab",["c"]]) cannot be transposed`},
	})
}

func TestTransposeAsTheModel(t *testing.T) {
	checkSamples(t, "Transpose", alone(collect.Transpose), modelAlone(transposeOf))
	r := rand.New(rand.NewSource(89))
	for range 20000 {
		v := arr()
		for range r.Intn(6) {
			v.List = append(v.List, someArray(r, r.Intn(5), 2))
		}
		if r.Intn(10) == 0 {
			v.List = append(v.List, somewhat(r, 1))
		}
		checkAsModel(t, "Transpose", alone(collect.Transpose), modelAlone(transposeOf), v, null)
	}
}

func TestTransposeIsNotTooLarge(t *testing.T) {
	empty, one := many(arr(), 40000), num(1)
	for name, x := range map[string]struct {
		v    api.Value
		want bool
	}{
		"as many as may be":        {many(many(one, 4369), 14), false}, // 4369 * 15 + 1 is MaxNodes
		"more":                     {many(many(one, 4370), 14), true},
		"one long row":             {arr(many(one, 32767)), false},
		"a longer one":             {arr(many(one, 32768)), true},
		"a row that is too long":   {arr(many(one, 70000)), true},
		"many short rows":          {many(arr(one), 65534), false},
		"more short rows":          {many(arr(one), 65535), true},
		"a long row among many":    {arr(append(empty.List, many(one, 40000))...), true},
		"many empty rows":          {many(arr(), 200000), false},
		"as many levels as may be": {nested(one, 9999), false},
		"more levels":              {arr(nested(one, 9999)), true},
		"more bytes":               {arr(arr(str(strings.Repeat("a", 1<<20))), arr(str("a"))), true},
	} {
		checkQuick(t, "Transpose of "+name, func() {
			got, err := collect.Transpose(x.v)
			checkTooLarge(t, "Transpose of "+name, got, err, x.want)
		})
	}
}

func TestSearchByHand(t *testing.T) {
	checkRows(t, "Search", collect.Search, searchOf, []row{
		{`[1,3]`, `2`, `-2`},
		{`[1,3]`, `1`, `0`},
		{`[1,3]`, `3`, `1`},
		{`[1,3]`, `0`, `-1`},
		{`[1,3]`, `4`, `-3`},
		{`[]`, `1`, `-1`},
		{`[1]`, `1`, `0`},
		{`[1]`, `2`, `-2`},
		{`[0]`, `-0`, `0`},
		{`[1,1,1,1]`, `1`, `1`},
		{`[1,1,1,1,1]`, `1`, `2`},
		{`[3,2,1]`, `1`, `-1`},
		{`[3,2,1]`, `3`, `-4`},
		{`[3,2,1]`, `2`, `1`},
		{`[null,false,true,0,"",[],{}]`, `"a"`, `-6`},
		{`[null,false,true,0,"",[],{}]`, `{}`, `6`},
		{`[nan,1]`, `nan`, `-2`},
		{`[nan,nan,nan]`, `nan`, `-4`},
		{`[1,2]`, `nan`, `-1`},
		{`[nan,1]`, `1`, `1`},
		{`[{"a":1,"b":2}]`, `{"b":2,"a":1}`, `0`},
		{`[[1],[2]]`, `[1,5]`, `-2`},
		{`null`, `1`, `!null (null) cannot be searched from`},
		{`{"a":1}`, `1`, `!object ({"a":1}) cannot be searched from`},
		{`"abc"`, `"a"`, `!string ("abc") cannot be searched from`},
		{`1`, `1`, `!number (1) cannot be searched from`},
		{`true`, `true`, `!boolean (true) cannot be searched from`},
	})
}

func TestSearchAsTheModel(t *testing.T) {
	checkSamples(t, "Search", collect.Search, searchOf)
	r := rand.New(rand.NewSource(90))
	for range 40000 {
		v := someArray(r, r.Intn(12), 2)
		if r.Intn(3) > 0 {
			v, _ = collect.Sort(v, v)
		}
		x := somewhat(r, 2)
		if len(v.List) > 0 && r.Intn(2) == 0 {
			x = v.List[r.Intn(len(v.List))]
		}
		checkAsModel(t, "Search", collect.Search, searchOf, v, x)
	}
}

func TestSearchOfLargeOnes(t *testing.T) {
	n := 1000000
	v := counted(n)
	for _, x := range []float64{0, 1, 12345, 999999} {
		got, err := collect.Search(v, num(x))
		checkOutcome(t, "Search", got, err, num(x), "")
	}
	got, err := collect.Search(v, str(""))
	checkOutcome(t, "Search", got, err, num(float64(-1-n)), "")
}

// TestIndicesIsQuick: rows that begin anew within themselves are found quickly, too.
func TestIndicesIsQuick(t *testing.T) {
	list, part := many(num(0), 1000000), many(num(0), 500000)
	part.List[len(part.List)-1] = num(1)
	list.List[len(list.List)-1] = num(1)
	checkQuick(t, "Indices of a row", func() {
		got, err := collect.Indices(list, part)
		checkOutcome(t, "Indices of a row", got, err, arr(num(500000)), "")
	})
	checkQuick(t, "Indices of a text", func() {
		got, err := collect.Indices(str(strings.Repeat("a", 1<<20)+"b"), str(strings.Repeat("a", 1<<19)+"b"))
		checkOutcome(t, "Indices of a text", got, err, arr(num(1<<19)), "")
	})
}
