package collect_test

import (
	"math/rand"
	"strings"
	"testing"

	"colander/api"
	"colander/collect"
)

// P8.4

func TestFlattenByHand(t *testing.T) {
	checkRows(t, "Flatten", collect.Flatten, flattenOf, []row{
		{`[1,[2,[3]]]`, `1`, `[1,2,[3]]`},
		{`[1,[2,[3]]]`, `0`, `[1,[2,[3]]]`},
		{`[1,[2,[3]]]`, `-0`, `[1,[2,[3]]]`},
		{`[1,[2,[3]]]`, `2`, `[1,2,3]`},
		{`[1,[2,[3,[[[4]]]]]]`, `1000000000`, `[1,2,3,4]`},
		{`[1,[2,[3,[[[4]]]]]]`, `1e300`, `[1,2,3,4]`},
		{`[1,[2,[3,[[[4]]]]]]`, `1e1000`, `[1,2,3,4]`},
		{`[1,[2,[3,[[[4]]]]]]`, `nan`, `[1,2,3,4]`},
		{`[1,[2,[3,[[[4]]]]]]`, `0.5`, `[1,2,3,4]`},
		{`[1,[2,[3,[[[4]]]]]]`, `1.5`, `[1,2,3,4]`},
		{`[1,[2,[3,[[[4]]]]]]`, `1e-300`, `[1,2,3,4]`},
		{`[[[[1]]]]`, `3`, `[1]`},
		{`[[[[1]]]]`, `2`, `[[1]]`},
		{`[[],[[]],[[],[[]]]]`, `1`, `[[],[],[[]]]`},
		{`[[],[[]],[[],[[]]]]`, `5`, `[]`},
		{`[]`, `1`, `[]`},
		{`[[]]`, `0`, `[[]]`},
		{`[{"a":[1]},[{"b":[2]}]]`, `3`, `[{"a":[1]},{"b":[2]}]`},
		{`{"b":[1,[2]],"a":3}`, `1`, `[1,[2],3]`},
		{`{"b":[1,[2]],"a":3}`, `0`, `[[1,[2]],3]`},
		{`{"a":{"b":[1]}}`, `9`, `[{"b":[1]}]`},
		{`{}`, `1`, `[]`},
		{`[null,[null,false]]`, `1`, `[null,null,false]`},
		{`[1]`, `-1`, `!flatten depth must not be negative`},
		{`[1]`, `-0.5`, `!flatten depth must not be negative`},
		{`[1]`, `-1e1000`, `!flatten depth must not be negative`},
		{`[1]`, `-1e-300`, `!flatten depth must not be negative`},
		{`null`, `-1`, `!flatten depth must not be negative`},
		{`[1]`, `null`, `!flatten depth must be a number`},
		{`[1]`, `"1"`, `!flatten depth must be a number`},
		{`1`, `[1]`, `!flatten depth must be a number`},
		{`null`, `{}`, `!flatten depth must be a number`},
		{`[]`, `true`, `!flatten depth must be a number`},
		{`null`, `1`, `!Cannot iterate over null`},
		{`null`, `nan`, `!Cannot iterate over null`},
		{`5`, `0`, `!Cannot iterate over number (5)`},
		{`"abc"`, `1`, `!Cannot iterate over string ("abc")`},
		{`true`, `1`, `!Cannot iterate over boolean (true)`},
	})
}

func TestFlattenAsTheModel(t *testing.T) {
	checkSamples(t, "Flatten", collect.Flatten, flattenOf)
	r := rand.New(rand.NewSource(87))
	deeps := vals(`0 -0 1 2 3 4 0.5 1.5 2.5 nan 1e1000 -1 4503599627370497.5`)
	for range 30000 {
		v := someArray(r, r.Intn(5), 4)
		checkAsModel(t, "Flatten", collect.Flatten, flattenOf, v, deeps[r.Intn(len(deeps))])
	}
}

func TestFlattenIsNotTooLarge(t *testing.T) {
	for name, x := range map[string]struct {
		v, deep api.Value
		want    bool
	}{
		"as many as may be":              {many(null, 65535), num(0), false},
		"more":                           {many(null, 65536), num(1), true},
		"more, of several arrays":        {many(counted(256), 256), num(1), true},
		"many, in more arrays":           {many(arr(counted(2).List...), 30000), num(1), false},
		"the same, left as they are":     {many(arr(counted(2).List...), 30000), num(0), true},
		"as many levels as may be":       {nested(num(1), 9999), num(0), false},
		"more levels":                    {nested(num(1), 10000), num(0), true},
		"more levels, less one":          {nested(num(1), 10000), num(1), false},
		"bytes of keys that are no more": {manyKeys(2000, 1000), num(1), false},
		"as many bytes as may be":        {arr(str(strings.Repeat("a", 1<<20))), num(1), false},
		"more bytes":                     {arr(str(strings.Repeat("a", 1<<20)), str("a")), num(1), true},
	} {
		got, err := collect.Flatten(x.v, x.deep)
		checkTooLarge(t, "Flatten of "+name, got, err, x.want)
	}
}

func TestFlattenIsQuick(t *testing.T) {
	checkQuick(t, "Flatten of deep ones", func() {
		row := arr()
		for range 6 {
			row.List = append(row.List, nested(num(1), 9999))
		}
		got, err := collect.Flatten(row, num(9999))
		checkOutcome(t, "Flatten of deep ones", got, err, many(num(1), 6), "")
		got, err = collect.Flatten(row, num(9998))
		checkOutcome(t, "Flatten of deep ones but for one level", got, err, many(arr(num(1)), 6), "")
	})
}
