package collect_test

import (
	"math/rand"
	"strings"
	"testing"

	"colander/api"
	"colander/collect"
)

// P8.2

func TestContainsByHand(t *testing.T) {
	checkRows(t, "Contains", collect.Contains, containsOf, []row{
		{`"foobar"`, `"bar"`, `true`},
		{`"foobar"`, `"foobar"`, `true`},
		{`"foobar"`, `""`, `true`},
		{`""`, `""`, `true`},
		{`"foobar"`, `"rab"`, `false`},
		{`"bar"`, `"foobar"`, `false`},
		{`"é😀z"`, `"😀"`, `true`},
		{`{"a":[1,"bc"]}`, `{"a":["b"]}`, `true`},
		{`{"a":[1,"bc"]}`, `{"a":["d"]}`, `false`},
		{`{"a":1,"b":2}`, `{"b":2}`, `true`},
		{`{"a":1,"b":2}`, `{"b":1}`, `false`},
		{`{"a":1,"b":2}`, `{"b":2,"a":1}`, `true`},
		{`{"a":1}`, `{"b":1}`, `false`},
		{`{"a":null}`, `{"b":null}`, `false`},
		{`{"a":1}`, `{"a":1,"b":1}`, `false`},
		{`{"a":1}`, `{}`, `true`},
		{`{}`, `{}`, `true`},
		{`{"a":{"b":"cd"}}`, `{"a":{"b":"d"}}`, `true`},
		{`{"a":1}`, `{"a":"1"}`, `false`},
		{`[1,2,3]`, `[3,1]`, `true`},
		{`[1,2,3]`, `[4]`, `false`},
		{`[1,2,3]`, `[1,1,1,1]`, `true`},
		{`[1,2,3]`, `[]`, `true`},
		{`[]`, `[]`, `true`},
		{`[]`, `[null]`, `false`},
		{`[]`, `[[]]`, `false`},
		{`["foobar","baz"]`, `["bar","b","az"]`, `true`},
		{`["foobar","baz"]`, `["zab"]`, `false`},
		{`["foo","bar"]`, `["oba"]`, `false`},
		{`["a"]`, `[""]`, `true`},
		{`[1]`, `[""]`, `false`},
		{`[[1,2],[3]]`, `[[3],[2]]`, `true`},
		{`[[1,2],[3]]`, `[[1,3]]`, `false`},
		{`[[1,2],[3]]`, `[[]]`, `true`},
		{`[[1,2],[3]]`, `[1]`, `false`},
		{`[{"a":1},{"b":2}]`, `[{}]`, `true`},
		{`[{"a":1},{"b":2}]`, `[{"a":1,"b":2}]`, `false`},
		{`[true]`, `[false]`, `false`},
		{`[true,null]`, `[null,true]`, `true`},
		{`[0]`, `[-0]`, `true`},
		{`[-0]`, `[0]`, `true`},
		{`[nan]`, `[nan]`, `false`},
		{`[1,nan]`, `[1]`, `true`},
		{`[1]`, `["1"]`, `false`},
		{`["1"]`, `[1]`, `false`},
		{`[null]`, `[0]`, `false`},
		{`[0]`, `[null]`, `false`},
		{`[""]`, `[null]`, `false`},
		{`1`, `1`, `true`},
		{`1`, `2`, `false`},
		{`0`, `-0`, `true`},
		{`nan`, `nan`, `false`},
		{`null`, `null`, `true`},
		{`true`, `true`, `true`},
		{`false`, `false`, `true`},
		{`1`, `"a"`, `!number (1) and string ("a") cannot have their containment checked`},
		{`true`, `false`, `!boolean (true) and boolean (false) cannot have their containment checked`},
		{`null`, `false`, `!null (null) and boolean (false) cannot have their containment checked`},
		{`[]`, `{}`, `!array ([]) and object ({}) cannot have their containment checked`},
		{`{}`, `null`, `!object ({}) and null (null) cannot have their containment checked`},
		{`["a"]`, `"a"`, `!array (["a"]) and string ("a") cannot have their containment checked`},
	})
}

func TestContainsAsTheModel(t *testing.T) {
	checkSamples(t, "Contains", collect.Contains, containsOf)
	r := rand.New(rand.NewSource(82))
	held := 0
	for range 60000 {
		v := somewhat(r, 4)
		x := lessened(r, v)
		checkAsModel(t, "Contains", collect.Contains, containsOf, v, x)
		checkAsModel(t, "Contains", collect.Contains, containsOf, v, somewhat(r, 4))
		if got, _ := collect.Contains(v, x); got.Kind == api.True && len(x.List) > 0 {
			held++
		}
	}
	if held < 5000 {
		t.Error("too little is contained:", held)
	}
}

// lessened answers v with parts of it left out, cut, said twice and in another order, and now and then with something else among them.
func lessened(r *rand.Rand, v api.Value) api.Value {
	if r.Intn(60) == 0 {
		return somewhat(r, 1)
	}
	switch v.Kind {
	case api.String:
		points := []rune(v.Str)
		from := r.Intn(len(points) + 1)
		return str(string(points[from : from+r.Intn(len(points)-from+1)]))
	case api.Array:
		out := arr()
		for _, i := range r.Perm(len(v.List)) {
			for range r.Intn(3) {
				out.List = append(out.List, lessened(r, v.List[i]))
			}
		}
		return out
	case api.Object:
		out := obj("")
		for _, i := range r.Perm(len(v.List)) {
			if r.Intn(3) > 0 {
				out.Keys = append(out.Keys, v.Keys[i])
				out.List = append(out.List, lessened(r, v.List[i]))
			}
		}
		return out
	}
	return v
}

// TestContainsIsQuick: arrays of many numbers, texts and objects, objects of many keys, and deep ones.
func TestContainsIsQuick(t *testing.T) {
	r := rand.New(rand.NewSource(83))
	numbers, fields := counted(60000), manyKeys(60000, 12)
	texts, objects, other := arr(), arr(), arr()
	for i, k := range fields.Keys {
		texts.List = append(texts.List, str(k))
		if i%3 == 0 {
			objects.List = append(objects.List, obj("id name", num(float64(i)), str(k)))
		}
	}
	backward := obj("")
	for i := range fields.Keys {
		backward.Keys = append(backward.Keys, fields.Keys[len(fields.Keys)-1-i])
	}
	backward.List = fields.List
	for i := range 20000 {
		other.List = append(other.List, num(float64(60000+i)))
	}
	for name, x := range map[string]struct {
		a, b api.Value
		is   bool
	}{
		"numbers":        {numbers, shuffled(numbers, r), true},
		"other numbers":  {numbers, other, false},
		"texts":          {texts, shuffled(texts, r), true},
		"objects":        {objects, objects, true},
		"fields":         {fields, backward, true},
		"deep":           {nested(num(1), 9999), nested(num(1), 9999), true},
		"deep otherwise": {nested(num(1), 9999), nested(num(2), 9999), false},
		"deeper":         {nested(num(1), 9998), nested(num(1), 9999), false},
		"deep NaN":       {nested(nan, 9999), nested(nan, 9999), false},
		"a text":         {str(strings.Repeat("a", 1<<20)), str(strings.Repeat("a", 1<<19) + "b"), false},
	} {
		checkQuick(t, "Contains of "+name, func() {
			got, err := collect.Contains(x.a, x.b)
			checkOutcome(t, "Contains of "+name, got, err, truth(x.is), "")
		})
	}
}
