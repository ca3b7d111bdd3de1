package reader_test

import (
	"bytes"
	"encoding/json"
	"math"
	"math/rand"
	"slices"
	"strconv"
	"strings"
	"testing"

	"colander/api"
	"colander/reader"
	"colander/sample"
	"colander/value"
)

// P4.6

// someBlanks answers n to m blanks of all kinds.
func someBlanks(r *rand.Rand, n, m int) string {
	out := ""
	for range n + r.Intn(m-n+1) {
		i := r.Intn(4)
		out += "\t\n\r "[i : i+1]
	}
	return out
}

func TestTextsAreReadAsTheirValues(t *testing.T) {
	r := rand.New(rand.NewSource(41))
	for range 20000 {
		var want []api.Value
		s := ""
		for range r.Intn(5) {
			v := somewhat(r, 4)
			want = append(want, v)
			s += someBlanks(r, 1, 3) + value.Text(v)
		}
		if r.Intn(2) == 0 {
			s += someBlanks(r, 1, 2)
		}
		if got, f := reader.All(s); f != (api.Fault{}) || !sameRow(got, want) {
			t.Fatalf("All(%q) = %s, %v, want %s", s, shown(got...), f, shown(want...))
		}
	}
}

func TestTextsOfEdgesAreReadAsTheirValues(t *testing.T) {
	for n := range 1114112 {
		if n >= 55296 && n <= 57343 || n > 3000 && n%97 > 0 && n < 1114000 {
			continue
		}
		want := arr(str(string(rune(n))), api.Value{Kind: api.Object, Keys: []string{string(rune(n)) + "a"}, List: []api.Value{null}})
		if got, f := reader.Single(value.Text(want)); f != (api.Fault{}) || !same(got, want) {
			t.Fatalf("%s, %v, want %s", shown(got), f, shown(want))
		}
	}
	for _, f := range []float64{0, math.Copysign(0, -1), 5e-324, math.MaxFloat64, -math.MaxFloat64, 0.1, 1e15, 1e16, 1e17, 1e-5, 1e-4, 9007199254740993, 1.0 / 3} {
		checkSingle(t, value.Text(num(f)), num(f))
	}
	// What no text tells: infinities come back as the greatest doubles, what is no number as null.
	checkSingle(t, value.Text(num(math.Inf(1))), num(math.MaxFloat64))
	checkSingle(t, value.Text(num(math.Inf(-1))), num(-math.MaxFloat64))
	checkSingle(t, value.Text(nan), null)
}

// TestGreatTextsAreReadAsTheirValues has values that are just not Large.
func TestGreatTextsAreReadAsTheirValues(t *testing.T) {
	deep := null
	for i := range api.MaxDepth - 1 {
		if i%3 == 0 {
			deep = obj("k", deep)
		} else {
			deep = arr(deep)
		}
	}
	wide := arr()
	for i := range api.MaxNodes - 1 {
		wide.List = append(wide.List, num(float64(i)/8))
	}
	keys := obj("")
	for i := range api.MaxNodes - 1 {
		keys.Keys = append(keys.Keys, string(rune(1000+i+i/40000*20000)))
		keys.List = append(keys.List, yes)
	}
	for name, want := range map[string]api.Value{"deep": deep, "wide": wide, "keys": keys, "long": str(strings.Repeat("\u20ac", (api.MaxText-2)/3))} {
		if !value.Right(want) || value.Large(want) {
			t.Fatal(name, "is no value for this")
		}
		if got, f := reader.Single(value.Text(want)); f != (api.Fault{}) || !same(got, want) {
			t.Errorf("%s: %v", name, f)
		}
	}
}

// parts are what texts are put together from.
func parts() []string {
	return []string{"[", "]", "{", "}", ",", ":", "1", "-2.5", "null", "true", "nan", "nul", "1.2.3", `"a"`, `"b c"`, `"\n"`, "\"\xff\"", `"\x"`, `"`, "\u00e9", "[1,2]", `{"a":1}`, `"a":`}
}

// TestWhatAllAnswersIsRight reads texts of any parts, good and bad.
func TestWhatAllAnswersIsRight(t *testing.T) {
	r := rand.New(rand.NewSource(42))
	all := parts()
	for range 60000 {
		s := ""
		for range r.Intn(12) {
			s += all[r.Intn(len(all))] + someBlanks(r, 0, 1)
		}
		checkText(t, s)
		checkRight(t, s)
	}
	for range 20000 {
		b := []byte(value.Text(somewhat(r, 4)) + " " + value.Text(somewhat(r, 3)))
		for range r.Intn(3) {
			b[r.Intn(len(b))] = byte(r.Intn(256))
		}
		checkText(t, string(b))
		checkRight(t, string(b))
	}
	open, end := nested(nests()[2], api.MaxDepth)
	for _, s := range []string{row(api.MaxNodes - 1), row(api.MaxNodes), open + end, open + "1" + end, `"` + strings.Repeat("\xff", 349525) + `"`, `"` + strings.Repeat("\xff", 349526) + `"`} {
		checkRight(t, "1 "+s+" 2")
	}
}

// checkRight holds that what is read of a text is right and not Large, and that values ahead of a fault are those of the text ahead of it.
func checkRight(t *testing.T, s string) {
	t.Helper()
	l, f := reader.All(s)
	for _, v := range l {
		if !value.Right(v) || value.Large(v) {
			t.Fatalf("All(%q): %s is not right, or large", cut(s), shown(v))
		}
	}
	if f.Code == api.OK {
		return
	}
	if ahead, _ := reader.All(s[:f.At.Off]); !sameRow(ahead, l) {
		t.Fatalf("All(%q) = %s, %v; of the text ahead of the fault %s", cut(s), shown(l...), f, shown(ahead...))
	}
}

// TestBlanksTurnSpotsAlone puts one blank, or many, between the same parts.
func TestBlanksTurnSpotsAlone(t *testing.T) {
	r := rand.New(rand.NewSource(43))
	all := parts()
	for range 40000 {
		thin, thick := "", someBlanks(r, 0, 2)
		places := map[int]int{0: len(thick)} // where a byte of the one text stands in the other one
		for range r.Intn(10) {
			part := all[r.Intn(len(all))]
			for i := range len(part) + 1 {
				places[len(thin)+i] = len(thick) + i
			}
			thin, thick = thin+part+" ", thick+part+someBlanks(r, 1, 4)
			if strings.Count(part, `"`)%2 > 0 {
				break // what stands behind it would be no part, but within a string
			}
		}
		places[len(thin)] = len(thick)
		a, fa := reader.All(thin)
		b, fb := reader.All(thick)
		inString := fa.Code == api.ErrEnd && strings.Count(thin, `"`)%2 > 0
		if !sameRow(a, b) || fa.Code != fb.Code || fa.Code != api.OK && !inString && fb.At != sample.SpotOf(thick, places[fa.At.Off]) {
			t.Fatalf("All(%q) = %s, %v; All(%q) = %s, %v", thin, shown(a...), fa, thick, shown(b...), fb)
		}
	}
}

// TestAsTheLibraryReads holds it against Go's own reader of JSON, where the two know the same texts.
func TestAsTheLibraryReads(t *testing.T) {
	r := rand.New(rand.NewSource(44))
	n := 0
	for range 60000 {
		b := []byte(value.Text(somewhat(r, 3)))
		for range r.Intn(3) {
			i := r.Intn(len(b) + 1)
			b = slices.Concat(b[:i], []byte(someJSON(r)), b[i:])
		}
		if !json.Valid(b) {
			continue
		}
		n++
		d := json.NewDecoder(bytes.NewReader(b))
		d.UseNumber()
		want := libraryValue(d)
		if got, f := reader.Single(string(b)); f != (api.Fault{}) || !same(got, want) {
			t.Fatalf("Single(%q) = %s, %v, want %s", b, shown(got), f, shown(want))
		}
	}
	if n < 10000 {
		t.Fatal("too few texts are good")
	}
}

// someJSON answers what may stand somewhere in a text.
func someJSON(r *rand.Rand) string {
	all := []string{" ", "\n", ",", ":", "[", "]", "{", "}", "1,", ",2", "0", "5", ".5", "e1", "-", "null,", "[],", `"a":1,`, `"a":[2],`, `"":3,`, `"b":"b",`, `\n`, `\u00e9`, `\ud83d`, `\ude00`, `\/`, "\xff", "\xe2\x82", "\u20ac", `"`}
	return all[r.Intn(len(all))]
}

// libraryValue reads the value that comes next.
func libraryValue(d *json.Decoder) api.Value {
	token, err := d.Token()
	if err != nil {
		panic(err)
	}
	switch token := token.(type) {
	case bool:
		if token {
			return yes
		}
		return no
	case json.Number:
		f, _ := strconv.ParseFloat(string(token), 64)
		return num(f)
	case string:
		return str(token)
	case json.Delim:
		out := arr()
		if token == '{' {
			out = obj("")
		}
		for d.More() {
			if token == '[' {
				out.List = append(out.List, libraryValue(d))
				continue
			}
			key := libraryValue(d).Str
			out = value.Put(out, key, libraryValue(d))
		}
		d.Token()
		return out
	}
	return null
}

// The rules: what is answered is new memory, and the same each time.

func TestAnswersAreNew(t *testing.T) {
	s := mixed[:strings.Index(mixed, " nan")+1] + `{"key":["string",{"other":"\u0041b"}]}`
	for range 2 {
		l, _ := reader.All(s)
		one, _, _, _ := reader.One(s, 0)
		for _, v := range append(l, one) {
			eachStr(v, func(part string) {
				if within(part, s) {
					t.Fatalf("%q stands in the text's own memory", part)
				}
			})
		}
		for i := range l {
			spoil(l[i])
		}
	}
	checkText(t, s)
}

// spoil changes all that v's lists hold.
func spoil(v api.Value) {
	for i := range v.Keys {
		v.Keys[i] = "spoilt"
	}
	for i := range v.List {
		spoil(v.List[i])
		v.List[i] = str("spoilt")
	}
}
