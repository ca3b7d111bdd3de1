package value_test

import (
	"math"
	"strings"
	"testing"

	"colander/api"
	"colander/value"
)

// P3.1

// wrongs are values that are not right, each in one way, with what is wrong.
func wrongs() map[string]api.Value {
	one, key := []api.Value{null}, []string{"a"}
	sub := math.Copysign(0, -1)
	out := map[string]api.Value{
		"kind below all":           {Kind: -1},
		"kind above all":           {Kind: 7},
		"kind far above all":       {Kind: math.MaxInt},
		"string of bad bytes":      {Kind: api.String, Str: "a\xff"},
		"string of half a point":   {Kind: api.String, Str: "\xe2\x82"},
		"string of a surrogate":    {Kind: api.String, Str: "\xed\xa0\x80"},
		"key of bad bytes":         {Kind: api.Object, Keys: []string{"\xff"}, List: one},
		"later key of bad bytes":   {Kind: api.Object, Keys: []string{"a", "b\x80"}, List: []api.Value{null, null}},
		"more keys than values":    {Kind: api.Object, Keys: []string{"a", "b"}, List: one},
		"keys without values":      {Kind: api.Object, Keys: key},
		"values without keys":      {Kind: api.Object, List: one},
		"more values than keys":    {Kind: api.Object, Keys: key, List: []api.Value{null, null}},
		"two keys alike":           {Kind: api.Object, Keys: []string{"a", "a"}, List: []api.Value{null, null}},
		"empty keys alike":         {Kind: api.Object, Keys: []string{"", "b", ""}, List: []api.Value{null, yes, null}},
		"keys alike, far apart":    {Kind: api.Object, Keys: []string{"b", "c", "a", "d", "b"}, List: many(null, 5)},
		"array with keys":          {Kind: api.Array, Keys: key},
		"array with keys, values":  {Kind: api.Array, Keys: key, List: one},
		"number with a string":     {Kind: api.Number, Num: 1, Str: "a"},
		"number with a list":       {Kind: api.Number, Num: 1, List: one},
		"number with keys":         {Kind: api.Number, Num: 1, Keys: key},
		"string with NaN":          {Kind: api.String, Str: "a", Num: math.NaN()},
		"string with the minus 0":  {Kind: api.String, Str: "a", Num: sub},
		"string with a list":       {Kind: api.String, Str: "a", List: one},
		"string with keys":         {Kind: api.String, Str: "a", Keys: key},
		"object with a list alone": {Kind: api.Object, List: []api.Value{null, null}},
	}
	for name, k := range map[string]api.Kind{"null": api.Null, "false": api.False, "true": api.True} {
		out[name+" with a string"] = api.Value{Kind: k, Str: "a"}
		out[name+" with a list"] = api.Value{Kind: k, List: one}
		out[name+" with keys"] = api.Value{Kind: k, Keys: key}
	}
	for name, k := range map[string]api.Kind{"null": api.Null, "false": api.False, "true": api.True, "string": api.String, "array": api.Array, "object": api.Object} {
		out[name+" with a number"] = api.Value{Kind: k, Num: 1}
		out[name+" with the negative 0"] = api.Value{Kind: k, Num: sub}
	}
	for name, k := range map[string]api.Kind{"array": api.Array, "object": api.Object} {
		out[name+" with a string"] = api.Value{Kind: k, Str: "a"}
	}
	return out
}

func TestRight(t *testing.T) {
	for _, v := range oddSamples() {
		if !value.Right(v) {
			t.Errorf("%s is not right", textOf(v))
		}
	}
	for name, v := range map[string]api.Value{
		"empty lists":    {Kind: api.Null, List: []api.Value{}, Keys: []string{}},
		"empty array":    {Kind: api.Array, List: []api.Value{}, Keys: []string{}},
		"empty object":   {Kind: api.Object, List: []api.Value{}, Keys: []string{}},
		"room behind":    {Kind: api.Array, List: []api.Value{null, {Kind: 7}}[:1], Keys: []string{"a"}[:0]},
		"a replacement":  str("\ufffd"),
		"last point":     str("\U0010ffff"),
		"keys alike but": obj("a A aa _ \ufffd", null, null, null, null, null),
		"keys in places": arr(obj("a", null), obj("a", obj("a", null))),
		"long and large": arr(many(str(strings.Repeat("a", api.MaxBytes)), 3)...),
		"many and large": arr(many(null, api.MaxNodes+1)...),
	} {
		if !value.Right(v) {
			t.Errorf("%s: not right", name)
		}
	}
}

func TestWrong(t *testing.T) {
	for name, v := range wrongs() {
		if value.Right(v) {
			t.Errorf("%s: right", name)
		}
		for within, w := range map[string]api.Value{
			"first":     arr(v, null),
			"last":      arr(null, v),
			"in object": obj("a b c", null, v, null),
			"deep":      arr(obj("a", arr(null, obj("b", v)))),
		} {
			if value.Right(w) {
				t.Errorf("%s, %s: right", name, within)
			}
		}
	}
}

// eachNest gives ways of putting values into each other.
func eachNest(do func(arrays, objects bool)) {
	do(true, false)
	do(false, true)
	do(true, true)
}

func TestRightLevels(t *testing.T) {
	eachNest(func(arrays, objects bool) {
		for _, v := range []api.Value{null, num(1), str("a"), arr(), obj("")} {
			if !value.Right(nested(v, api.MaxDepth-1, arrays, objects)) {
				t.Errorf("MaxDepth levels, %s: not right", textOf(v))
			}
			if value.Right(nested(v, api.MaxDepth, arrays, objects)) {
				t.Errorf("MaxDepth + 1 levels, %s: right", textOf(v))
			}
		}
		deep := nested(null, api.MaxDepth-2, arrays, objects)
		if !value.Right(arr(deep, null)) || value.Right(arr(null, arr(deep, null))) || value.Right(arr(null, obj("a b", null, deep))) {
			t.Error("levels are not those of the deepest value")
		}
		if value.Right(nested(null, 1000000, arrays, objects)) {
			t.Error("a million levels: right")
		}
	})
}

// circles are values that have themselves within them.
func circles() []api.Value {
	one, two := arr(null), arr(null, null)
	one.List[0], two.List[0], two.List[1] = one, two, two
	o := obj("a b", null, null)
	o.List[0], o.List[1] = o, arr(o)
	late := arr(null, null)
	late.List[1] = obj("k", late)
	return []api.Value{one, two, o, late}
}

func TestCirclesAreNotRight(t *testing.T) {
	for i, v := range circles() {
		if value.Right(v) {
			t.Errorf("circle %d: right", i)
		}
	}
}

// P3.2

func TestLargeByValues(t *testing.T) {
	half := arr(many(null, api.MaxNodes/2-1)...)
	rest := many(null, api.MaxNodes/2-1)
	keys := func(n int) api.Value {
		v := obj("")
		for i := range n {
			v.Keys = append(v.Keys, string(rune(1000+i)))
			v.List = append(v.List, null)
		}
		return v
	}
	for _, x := range []struct {
		name string
		v    api.Value
		want bool
	}{
		{"MaxNodes", arr(many(null, api.MaxNodes-1)...), false},
		{"one more", arr(many(null, api.MaxNodes)...), true},
		{"far more", arr(many(null, 3*api.MaxNodes)...), true},
		{"MaxNodes, empty arrays", arr(many(arr(), api.MaxNodes-1)...), false},
		{"one more, empty arrays", arr(many(arr(), api.MaxNodes)...), true},
		{"MaxNodes, of two", arr(append([]api.Value{half}, rest...)...), false},
		{"one more, of two", arr(append([]api.Value{half, null}, rest...)...), true},
		{"MaxNodes in an object", keys(api.MaxNodes - 1), false},
		{"one more in an object", keys(api.MaxNodes), true},
		{"MaxNodes, the last one within", arr(append(many(num(1), api.MaxNodes-3), arr(obj("")))...), false},
		{"one more, the last one within", arr(append(many(num(1), api.MaxNodes-3), arr(obj("a", null)))...), true},
	} {
		if got := value.Large(x.v); got != x.want {
			t.Errorf("%s: %v", x.name, got)
		}
	}
}

func TestLargeByBytes(t *testing.T) {
	most := strings.Repeat("a", api.MaxBytes)
	part := most[:api.MaxBytes/4]
	for _, x := range []struct {
		name string
		v    api.Value
		want bool
	}{
		{"MaxBytes", str(most), false},
		{"one more", str(most + "a"), true},
		{"MaxBytes of two each", str(strings.Repeat("é", api.MaxBytes/2)), false},
		{"two more of two each", str(strings.Repeat("é", api.MaxBytes/2+1)), true},
		{"MaxBytes of four", arr(many(str(part), 4)...), false},
		{"one more than four", arr(append(many(str(part), 4), str("a"))...), true},
		{"MaxBytes, a key", obj(most, null), false},
		{"one more, a key", obj(most+"a", null), true},
		{"MaxBytes, keys and strings", arr(obj(part+" b", str(part), str(part[1:])), obj("_", obj(part, str("")))), false},
		{"one more, keys and strings", arr(obj(part+" b", str(part), str(part[1:])), obj("a", obj(part, str("")))), true},
		{"one more, an inner string", arr(obj(part+" b", str(part), str(part)), obj("_", obj(part, str("")))), true},
		{"numbers are no bytes", arr(str(most), num(1.25), yes, null), false},
	} {
		if got := value.Large(x.v); got != x.want {
			t.Errorf("%s: %v", x.name, got)
		}
	}
}

func TestLargeByLevels(t *testing.T) {
	eachNest(func(arrays, objects bool) {
		for _, v := range []api.Value{null, arr(), obj("")} {
			if value.Large(nested(v, api.MaxDepth-1, arrays, objects)) {
				t.Errorf("MaxDepth levels, %s: large", textOf(v))
			}
			if !value.Large(nested(v, api.MaxDepth, arrays, objects)) {
				t.Errorf("MaxDepth + 1 levels, %s: not large", textOf(v))
			}
		}
	})
}

func TestLargeOfWrongValues(t *testing.T) {
	for name, v := range wrongs() {
		if value.Large(v) || value.Large(arr(v, obj("a", v))) {
			t.Errorf("%s: large", name)
		}
	}
	for i, v := range circles() {
		if !value.Large(v) {
			t.Errorf("circle %d: not large", i)
		}
	}
	if !value.Large(nested(null, 1000000, true, true)) {
		t.Error("a million levels: not large")
	}
	for _, v := range samples() {
		if value.Large(v) {
			t.Errorf("%s: large", textOf(v))
		}
	}
}

func TestNameAndTruth(t *testing.T) {
	for _, x := range []struct {
		v     api.Value
		name  string
		truth bool
	}{
		{null, "null", false}, {no, "boolean", false}, {yes, "boolean", true},
		{num(1), "number", true}, {num(0), "number", true}, {minus, "number", true}, {nan, "number", true}, {inf, "number", true},
		{str(""), "string", true}, {str("false"), "string", true},
		{arr(), "array", true}, {arr(no), "array", true}, {obj(""), "object", true}, {obj("a", null), "object", true},
	} {
		if got := value.Name(x.v); got != x.name {
			t.Errorf("Name(%s) = %q", textOf(x.v), got)
		}
		if got := value.Truth(x.v); got != x.truth {
			t.Errorf("Truth(%s) = %v", textOf(x.v), got)
		}
	}
}
