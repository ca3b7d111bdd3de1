package collect_test

import (
	"math/rand"
	"strconv"
	"strings"
	"testing"

	"colander/api"
	"colander/collect"
	"colander/value"
)

// P8.3

func TestSortByHand(t *testing.T) {
	checkRows(t, "Sort", collect.Sort, sortOf, append([]row{
		{`[3,1,2]`, `[1,1,0]`, `[2,3,1]`},
		{`[3,1,2]`, `[3,1,2]`, `[1,2,3]`},
		{`[]`, `[]`, `[]`},
		{`[1]`, `[null]`, `[1]`},
		{`["a","b","c","d","e","f","g"]`, `[{},[],"",0,true,false,null]`, `["g","f","e","d","c","b","a"]`},
		{`[1,2,3,4]`, `[0,-0,0,-0]`, `[1,2,3,4]`},
		{`[1,2,3]`, `[1,0,-0]`, `[2,3,1]`},
		{`[1,2,3,4]`, `[1,nan,null,nan]`, `[3,2,4,1]`},
		{`[1,2,3]`, `[[nan,2],[nan,1],[nan]]`, `[1,2,3]`},
		{`[1,2,3]`, `[[1],[nan,1],[]]`, `[3,2,1]`},
		{`[1,2]`, `[{"b":1,"a":2},{"a":2,"b":1}]`, `[1,2]`},
		{`[1,2,3]`, `[{"a":1,"b":0},{"a":2},{"a":1}]`, `[3,2,1]`},
		{`[[2],{"a":1},"x"]`, `["é","z","Z"]`, `["x",{"a":1},[2]]`},
	}, badKeys("sorted")...))
}

// badKeys are the rows of what has no keys to be done that by.
func badKeys(done string) []row {
	return []row{
		{`null`, `[]`, `!null (null) cannot be ` + done + `, as it is not an array`},
		{`{"a":1}`, `[1]`, `!object ({"a":1}) cannot be ` + done + `, as it is not an array`},
		{`"a"`, `"b"`, `!string ("a") cannot be ` + done + `, as it is not an array`},
		{`[1]`, `null`, `!array ([1]) and null (null) cannot be ` + done + `, as they are not both arrays`},
		{`[1]`, `{"a":1}`, `!array ([1]) and object ({"a":1}) cannot be ` + done + `, as they are not both arrays`},
		{`[1]`, `[]`, `!array ([1]) and array ([]) cannot be ` + done + `, as they are not both arrays`},
		{`[]`, `[1]`, `!array ([]) and array ([1]) cannot be ` + done + `, as they are not both arrays`},
		{`[]`, `{}`, `!array ([]) and object ({}) cannot be ` + done + `, as they are not both arrays`},
		{`[1,2]`, `[1,2,3]`, `!array ([1,2]) and array ([1,2,3]) cannot be ` + done + `, as they are not both arrays`},
		{`[]`, `""`, `!array ([]) and string ("") cannot be ` + done + `, as they are not both arrays`},
	}
}

func TestGroupByHand(t *testing.T) {
	checkRows(t, "Group", collect.Group, groupOf, append([]row{
		{`[{"a":1},{"a":2},{"a":1}]`, `[1,2,1]`, `[[{"a":1},{"a":1}],[{"a":2}]]`},
		{`[]`, `[]`, `[]`},
		{`[1,2,3,4]`, `[2,1,2,1]`, `[[2,4],[1,3]]`},
		{`[1,2,3]`, `[0,-0,0]`, `[[1,2,3]]`},
		{`[1,2,3]`, `[nan,0,nan]`, `[[1],[3],[2]]`},
		{`[1,2,3]`, `[[nan],0,[nan]]`, `[[2],[1],[3]]`},
		{`[1,2]`, `[{"b":1,"a":2},{"a":2,"b":1}]`, `[[1,2]]`},
		{`[1,2,3,4]`, `[null,false,null,true]`, `[[1,3],[2],[4]]`},
	}, badKeys("grouped")...))
}

func TestUniqueByHand(t *testing.T) {
	checkRows(t, "Unique", collect.Unique, uniqueOf, append([]row{
		{`[{"a":1},{"a":2},{"a":3}]`, `[1,2,1]`, `[{"a":1},{"a":2}]`},
		{`[]`, `[]`, `[]`},
		{`[1,2,3,4]`, `[2,1,2,1]`, `[2,1]`},
		{`[1,2,3]`, `[0,-0,0]`, `[1]`},
		{`[1,2,3]`, `[-0,0,1]`, `[1,3]`},
		{`[1,2,3]`, `[nan,0,nan]`, `[1,3,2]`},
		{`[2,1,2]`, `[2,1,2]`, `[1,2]`},
	}, badKeys("grouped")...))
}

func TestLeastAndGreatestByHand(t *testing.T) {
	bad := []row{
		{`null`, `null`, `!null (null) and null (null) cannot be iterated over`},
		{`{}`, `{}`, `!object ({}) and object ({}) cannot be iterated over`},
		{`[]`, `{}`, `!array ([]) and object ({}) cannot be iterated over`},
		{`{}`, `[]`, `!object ({}) and array ([]) cannot be iterated over`},
		{`[1]`, `null`, `!array ([1]) and null (null) cannot be iterated over`},
		{`[1]`, `[]`, `!array ([1]) and array ([]) cannot be iterated over`},
		{`[1,2]`, `[1]`, `!array ([1,2]) and array ([1]) cannot be iterated over`},
		{`"a"`, `["a"]`, `!string ("a") and array (["a"]) cannot be iterated over`},
		{`[]`, `[]`, `null`},
		{`[[1]]`, `[null]`, `[1]`},
	}
	checkRows(t, "Least", collect.Least, leastOf, append([]row{
		{`[1,2]`, `[0,0]`, `1`},
		{`[1,2,3]`, `[1,0,2]`, `2`},
		{`[1,2,3]`, `[0,-0,1]`, `1`},
		{`[1,2,3]`, `[nan,0,nan]`, `3`},
		{`[1,2,3]`, `[nan,0,null]`, `3`},
		{`[1,2,3]`, `[0,nan,-1]`, `2`},
		{`[1,2,3]`, `[[],"a",{}]`, `2`},
	}, bad...))
	checkRows(t, "Greatest", collect.Greatest, greatestOf, append([]row{
		{`[1,2]`, `[0,0]`, `2`},
		{`[1,2,3]`, `[1,2,0]`, `2`},
		{`[1,2,3]`, `[0,1,-1]`, `2`},
		{`[1,2,3]`, `[-0,0,-1]`, `2`},
		{`[1,2,3]`, `[nan,0,nan]`, `2`},
		{`[1,2]`, `[nan,nan]`, `1`},
		{`[1,2,3]`, `[0,nan,0]`, `3`},
		{`[1,2,3]`, `["a",{},[]]`, `2`},
	}, bad...))
}

// byKeys are the calls that keys are handed to.
func byKeys() map[string]struct {
	do call
	as model
} {
	return map[string]struct {
		do call
		as model
	}{
		"Sort":     {collect.Sort, sortOf},
		"Group":    {collect.Group, groupOf},
		"Unique":   {collect.Unique, uniqueOf},
		"Least":    {collect.Least, leastOf},
		"Greatest": {collect.Greatest, greatestOf},
	}
}

func TestByKeysAsTheModel(t *testing.T) {
	for name, c := range byKeys() {
		checkSamples(t, name, c.do, c.as)
		r := rand.New(rand.NewSource(84))
		for range 8000 {
			n := r.Intn(8)
			if r.Intn(20) == 0 {
				n = r.Intn(60) // the library sorts short rows in another way
			}
			checkAsModel(t, name, c.do, c.as, counted(n), someKeys(r, n))
			v := someArray(r, n%10, 2)
			checkAsModel(t, name, c.do, c.as, v, v)
		}
	}
}

// TestLikeKeysStayInOrder: of many keys of which neither is ahead the values stand as they stood.
func TestLikeKeysStayInOrder(t *testing.T) {
	r := rand.New(rand.NewSource(85))
	kinds := vals(`0 -0 nan [nan,1] [nan,2] {"a":1,"b":-0} {"b":0,"a":1}`)
	n := 20000
	by := many(null, n)
	for i := range by.List {
		by.List[i] = kinds[r.Intn(len(kinds))]
	}
	got, err := collect.Sort(counted(n), by)
	if err.Is || len(got.List) != n {
		t.Fatal("Sort", shown(err.V))
	}
	classes := []func(key api.Value) bool{
		func(key api.Value) bool { return key.Num != key.Num },
		func(key api.Value) bool { return key.Kind == api.Number },
		func(key api.Value) bool { return key.Kind == api.Array },
		func(key api.Value) bool { return key.Kind == api.Object },
	}
	at := 0
	for _, is := range classes {
		last := -1
		for at < n && is(by.List[int(got.List[at].Num)]) {
			if place := int(got.List[at].Num); place > last {
				last = place
			} else {
				t.Fatal("not as they stood:", place, "behind", last)
			}
			at++
		}
	}
	if at != n {
		t.Error("not in the order of the keys from", at, "on")
	}
}

func TestByKeysAreNotTooLarge(t *testing.T) {
	one := num(1)
	for name, c := range map[string]struct {
		do   call
		v    api.Value
		by   api.Value
		want bool
	}{
		"Sort of as many as may be":           {collect.Sort, counted(65535), counted(65535), false},
		"Sort of more":                        {collect.Sort, counted(65536), counted(65536), true},
		"Sort by large keys":                  {collect.Sort, arr(one, one), arr(many(one, 70000), many(one, 70000)), false},
		"Sort of as many bytes as may be":     {collect.Sort, arr(str(strings.Repeat("a", 1<<20))), arr(one), false},
		"Sort of more bytes":                  {collect.Sort, arr(str(strings.Repeat("a", 1<<20+1))), arr(one), true},
		"Sort of as many levels as may be":    {collect.Sort, nested(one, 9999), arr(one), false},
		"Group of one group":                  {collect.Group, many(one, 65534), many(one, 65534), false},
		"Group of one group of more":          {collect.Group, many(one, 65535), many(one, 65535), true},
		"Group of groups":                     {collect.Group, counted(32767), counted(32767), false},
		"Group of more groups":                {collect.Group, counted(32768), counted(32768), true},
		"Group of as many levels as may be":   {collect.Group, nested(one, 9998), arr(one), false},
		"Group of more levels":                {collect.Group, nested(one, 9999), arr(one), true},
		"Unique of one":                       {collect.Unique, many(one, 100000), many(one, 100000), false},
		"Unique of as many as may be":         {collect.Unique, counted(65535), counted(65535), false},
		"Unique of more":                      {collect.Unique, counted(65536), counted(65536), true},
		"Least of large ones":                 {collect.Least, arr(many(one, 100000), one), arr(one, many(one, 70000)), false},
		"Greatest of large ones":              {collect.Greatest, arr(one, many(one, 100000)), arr(one, one), false},
		"Greatest of many bytes":              {collect.Greatest, arr(str(strings.Repeat("a", 1<<21))), arr(one), false},
		"Least of many, one of which is held": {collect.Least, many(one, 100000), many(one, 100000), false},
	} {
		got, err := c.do(c.v, c.by)
		checkTooLarge(t, name, got, err, c.want)
	}
}

// TestLargeOnesAreAnswered: Least and Greatest answer what is too large, too.
func TestLargeOnesAreAnswered(t *testing.T) {
	large := many(str("a"), 100000)
	for name, c := range map[string]call{"Least": collect.Least, "Greatest": collect.Greatest} {
		got, err := c(arr(large), arr(null))
		checkOutcome(t, name, got, err, large, "")
	}
	for name, c := range byKeys() {
		_, err := c.do(large, null)
		if !err.Is || !strings.HasPrefix(err.V.Str, `array (["a","a","a","a","a",...) and null (null) cannot be `) {
			t.Error(name, shown(err.V))
		}
	}
}

func TestByKeysIsQuick(t *testing.T) {
	r := rand.New(rand.NewSource(86))
	n := 60000
	objects := arr()
	for i := range n {
		objects.List = append(objects.List, obj("b a", num(float64(i%1000)), str(strconv.Itoa(i%7))))
	}
	for name, by := range map[string]api.Value{
		"numbers": shuffled(counted(n), r), "sorted numbers": counted(n), "NaN": many(nan, n), "noughts": many(minus, n), "objects": shuffled(objects, r),
	} {
		for call, c := range byKeys() {
			checkQuick(t, call+" of "+name, func() {
				c.do(counted(n), by)
			})
		}
	}
	checkQuick(t, "Unique of millions", func() {
		got, err := collect.Unique(many(yes, 1000000), shuffled(arr(append(counted(1000).List, many(num(1), 999000).List...)...), r))
		if err.Is || len(got.List) != 1000 || value.Large(got) {
			t.Error("Unique of millions:", shown(err.V), len(got.List))
		}
	})
}
