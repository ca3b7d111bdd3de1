package reader_test

import (
	"math"
	"strconv"
	"strings"
	"testing"

	"colander/api"
	"colander/reader"
	"colander/sample"
)

// P4.3

func TestOneByHand(t *testing.T) {
	for _, x := range []struct {
		s    string
		off  int
		want api.Value
		end  int
		ok   bool
	}{
		{"1", 0, num(1), 1, true},
		{" 1 ", 0, num(1), 2, true},
		{"1 2", 0, num(1), 1, true},
		{"1 2", 1, num(2), 3, true},
		{"1 2", 2, num(2), 3, true},
		{"1 2", 3, null, 3, false},
		{"12", 1, num(2), 2, true},
		{"null", 0, null, 4, true},
		{"[1,2]", 1, num(1), 2, true},
		{"[1,2]", 3, num(2), 4, true},
		{`{"a":[1]} x`, 0, obj("a", arr(num(1))), 9, true},
		{`{"a":[1]} x`, 1, str("a"), 4, true},
		{`{"a":[1]} x`, 5, arr(num(1)), 8, true},
		{`"a"b`, 0, str("a"), 3, true},
		{"", 0, null, 0, false},
		{"", 7, null, 0, false},
		{"", -7, null, 0, false},
		{" \n\t\r", 0, null, 4, false},
		{" \n\t\r", 2, null, 4, false},
		{"1 \n", 1, null, 3, false},
		{"nul", 3, null, 3, false},
		{"1 2", 4, null, 3, false},
		{"1 2", math.MaxInt, null, 3, false},
		{"1 2", -1, num(1), 1, true},
		{"1 2", math.MinInt, num(1), 1, true},
		{"true1", 4, num(1), 5, true},
		{"true false", 4, no, 10, true},
	} {
		v, end, ok, f := reader.One(x.s, x.off)
		if !same(v, x.want) || end != x.end || ok != x.ok || f != (api.Fault{}) {
			t.Errorf("One(%q, %d) = %s, %d, %v, %v, want %s, %d, %v", x.s, x.off, shown(v), end, ok, f, shown(x.want), x.end, x.ok)
		}
	}
}

// TestFaultsByHand has each fault at each place where it can be met, and several in one text.
func TestFaultsByHand(t *testing.T) {
	for _, x := range []struct {
		s    string
		code api.Errno
		off  int
	}{
		// what cannot stand where a value is to begin
		{"]", api.ErrJSON, 0}, {"}", api.ErrJSON, 0}, {",", api.ErrJSON, 0}, {":", api.ErrJSON, 0}, {"'a'", api.ErrJSON, 0}, {"\\n", api.ErrJSON, 0}, {"/", api.ErrJSON, 0}, {"\x00", api.ErrJSON, 0}, {"\u00e9", api.ErrJSON, 0}, {"\xff", api.ErrJSON, 0}, {"#", api.ErrJSON, 0}, {"$a", api.ErrJSON, 0}, {" \n ]", api.ErrJSON, 3},
		{"[,", api.ErrJSON, 1}, {"[,1]", api.ErrJSON, 1}, {"[}", api.ErrJSON, 1}, {"[:", api.ErrJSON, 1}, {"[ \u00e9", api.ErrJSON, 2},
		{"[1,]", api.ErrJSON, 3}, {"[1,,2]", api.ErrJSON, 3}, {"[1,}", api.ErrJSON, 3}, {"[1,:", api.ErrJSON, 3}, {"[1, ]", api.ErrJSON, 4},
		{`{"a":}`, api.ErrJSON, 5}, {`{"a":,`, api.ErrJSON, 5}, {`{"a":]`, api.ErrJSON, 5}, {`{"a"::1}`, api.ErrJSON, 5}, {`{"a": }`, api.ErrJSON, 6},
		// what cannot stand behind a value
		{"[1 2]", api.ErrJSON, 3}, {"[1 nul]", api.ErrJSON, 3}, {`[1"a"]`, api.ErrJSON, 2}, {`[1"a`, api.ErrJSON, 2}, {"[1[2]]", api.ErrJSON, 2}, {"[1{}]", api.ErrJSON, 2}, {"[1}", api.ErrJSON, 2}, {"[1:2]", api.ErrJSON, 2}, {"[[]1]", api.ErrJSON, 3}, {`["a"nul]`, api.ErrJSON, 4}, {"[1\u00e9]", api.ErrJSON, 2}, {"[[1}]", api.ErrJSON, 3},
		{`{"a":1]`, api.ErrJSON, 6}, {`{"a":1:2}`, api.ErrJSON, 6}, {`{"a":1 "b":2}`, api.ErrJSON, 7}, {`{"a":1 2}`, api.ErrJSON, 7}, {`{"a":[}`, api.ErrJSON, 6}, {`{"a":"b""c":1}`, api.ErrJSON, 8},
		// what cannot stand in the place of a key, of a colon
		{"{1:2}", api.ErrJSON, 1}, {"{nul", api.ErrJSON, 1}, {"{null:1}", api.ErrJSON, 1}, {"{a:1}", api.ErrJSON, 1}, {"{[1]:2}", api.ErrJSON, 1}, {"{{}:2}", api.ErrJSON, 1}, {"{,", api.ErrJSON, 1}, {"{:1}", api.ErrJSON, 1}, {"{]", api.ErrJSON, 1}, {"{'a':1}", api.ErrJSON, 1},
		{`{"a":1,}`, api.ErrJSON, 7}, {`{"a":1,,`, api.ErrJSON, 7}, {`{"a":1,2`, api.ErrJSON, 7}, {`{"a":1,nul`, api.ErrJSON, 7}, {`{"a":1,]`, api.ErrJSON, 7},
		{`{"a"}`, api.ErrJSON, 4}, {`{"a",`, api.ErrJSON, 4}, {`{"a" 1}`, api.ErrJSON, 5}, {`{"a"nul`, api.ErrJSON, 4}, {`{"a""b"}`, api.ErrJSON, 4}, {`{"a"=1}`, api.ErrJSON, 4}, {`{"a"]`, api.ErrJSON, 4},
		// words that are none
		{"nul", api.ErrLiteral, 0}, {"\n nul", api.ErrLiteral, 2}, {"[nul", api.ErrLiteral, 1}, {"[1,\nnul]", api.ErrLiteral, 4}, {`{"a":nul`, api.ErrLiteral, 5}, {"[nul\u00e9", api.ErrLiteral, 1}, {`[nul"`, api.ErrLiteral, 1}, {"[1.2.3,", api.ErrLiteral, 1},
		// escapes that are none
		{`"\x"`, api.ErrEscape, 1}, {`["\x`, api.ErrEscape, 2}, {`{"\x`, api.ErrEscape, 2}, {`{"a":1,"\x`, api.ErrEscape, 8}, {`{"a":"\x`, api.ErrEscape, 6}, {`"\u12`, api.ErrEscape, 1}, {`"\`, api.ErrEscape, 1},
		// the end
		{"[", api.ErrEnd, 1}, {"[ \n", api.ErrEnd, 3}, {"[1", api.ErrEnd, 2}, {"[null", api.ErrEnd, 5}, {"[1 ", api.ErrEnd, 3}, {"[1,", api.ErrEnd, 3}, {"[1,\n", api.ErrEnd, 4}, {"[[]", api.ErrEnd, 3}, {"[[", api.ErrEnd, 2}, {"[{}", api.ErrEnd, 3},
		{"{", api.ErrEnd, 1}, {"{ ", api.ErrEnd, 2}, {`{"a"`, api.ErrEnd, 4}, {`{"a" `, api.ErrEnd, 5}, {`{"a":`, api.ErrEnd, 5}, {`{"a": `, api.ErrEnd, 6}, {`{"a":1`, api.ErrEnd, 6}, {`{"a":1 `, api.ErrEnd, 7}, {`{"a":1,`, api.ErrEnd, 7}, {`{"a":1, `, api.ErrEnd, 8}, {`{"a":{`, api.ErrEnd, 6}, {`{"a":{}`, api.ErrEnd, 7},
		{`"`, api.ErrEnd, 1}, {`"a`, api.ErrEnd, 2}, {"\"a\n", api.ErrEnd, 3}, {`"\"`, api.ErrEnd, 3}, {`"a\n`, api.ErrEnd, 4}, {`"\u0041`, api.ErrEnd, 7}, {`"\ud83d`, api.ErrEnd, 7}, {`"\\`, api.ErrEnd, 3}, {`["a`, api.ErrEnd, 3}, {`{"`, api.ErrEnd, 2}, {`{"a`, api.ErrEnd, 3}, {`{"a":"`, api.ErrEnd, 6}, {"\"\xff", api.ErrEnd, 2},
		// several: the first one counts
		{"[nul,tru]", api.ErrLiteral, 1}, {"[nul }", api.ErrLiteral, 1}, {`["\x",nul`, api.ErrEscape, 2}, {`[nul,"\x"`, api.ErrLiteral, 1}, {"[1 nul,", api.ErrJSON, 3}, {`["\x" "\y`, api.ErrEscape, 2}, {`{"\x":nul}`, api.ErrEscape, 2}, {`{"a":nul,}`, api.ErrLiteral, 5}, {`{nul:"\x"}`, api.ErrJSON, 1}, {`{"a" "\x`, api.ErrJSON, 5}, {"[,nul", api.ErrJSON, 1}, {`[1,"\x`, api.ErrEscape, 4}, {"[1,]\u00e9", api.ErrJSON, 3},
	} {
		checkFault(t, x.s, x.code, x.off)
		checkFault(t, "\n\n "+x.s, x.code, x.off+3)
		checkPlaces(t, x.s)
	}
}

// TestWhatStandsBehind asks for nothing of what stands behind a value.
func TestWhatStandsBehind(t *testing.T) {
	for _, s := range []string{"1", "null", `"a"`, "[1,2]", `{"a":"b"}`} {
		for _, behind := range []string{" nul", "]", ",", "\u00e9", "\xff", " [", ` "\x"`, " ]", "\x00", ":1", "\n'"} {
			if v, end, ok, f := reader.One(s+behind, 0); shown(v) != s || end != len(s) || !ok || f != (api.Fault{}) {
				t.Errorf("One(%q) = %s, %d, %v, %v", s+behind, shown(v), end, ok, f)
			}
		}
	}
}

// TestAllShortTexts reads all texts of a few parts.
func TestAllShortTexts(t *testing.T) {
	sample.EachText([]string{"[", "]", "{", "}", ",", ":", " ", "\n", `"a"`, `"b"`, "1", "null", "nul", `"`, `\`, `\u00e9`, "\xff", mark}, 4, func(s string) {
		checkText(t, s)
	})
	sample.EachText([]string{"[", "]", "{", "}", ",", ":", `"a"`, "1"}, 6, func(s string) {
		checkText(t, s)
	})
	sample.EachText([]string{"[", "}", " ", `"`, `\`, "u00e9", "1", "\n"}, 4, func(s string) {
		checkPlaces(t, s)
	})
}

const mixed = "{\"a\":[1,-0.5e1,\"x\\u00e9\\n\xff\"],\n\"b\": {\"\":null,\"c\":[ ]},\"a\":{ }} \"\\ud83d\\ude00\"\nnan[true]"

// TestEachByteInASample puts each byte in the place of, and ahead of, each of a text's, cuts it off at each, and leaves out each.
func TestEachByteInASample(t *testing.T) {
	checkPlaces(t, mixed)
	for i := range len(mixed) {
		ahead, rest := mixed[:i], mixed[i+1:]
		checkPlaces(t, ahead)
		checkPlaces(t, ahead+rest)
		for b := range 256 {
			c := string([]byte{byte(b)})
			checkText(t, ahead+c+rest)
			checkText(t, ahead+c+mixed[i:])
		}
	}
}

func TestTextsOfMaxText(t *testing.T) {
	const most = api.MaxText
	zeros := strings.Repeat("0", most)
	for name, s := range map[string]string{
		"blanks":    strings.Repeat(" ", most),
		"a word":    zeros,
		"a string":  `"` + zeros[:most-2] + `"`,
		"values":    strings.Repeat("1 ", most/2),
		"a fault":   "nul" + zeros[:most-3],
		"a bad end": strings.Repeat(" ", most-1) + "]",
		"no end":    `"` + zeros[:most-1],
		"a mark":    mark + zeros[:most-3],
	} {
		if len(s) != most {
			t.Fatal(name, len(s))
		}
		checkText(t, s)
		if _, _, _, f := reader.One(s, 0); f.Code == api.ErrLarge {
			t.Errorf("%s of MaxText bytes: %v", name, f)
		}
		for _, s := range []string{s + " ", "\n" + s, s + "]", s + s} {
			checkLongText(t, name, s)
		}
	}
}

// checkLongText holds that a text is refused as a whole.
func checkLongText(t *testing.T, name, s string) {
	t.Helper()
	want := api.Fault{Code: api.ErrLarge}
	for _, off := range []int{-1, 0, 1, 5, len(s) - 1, len(s), len(s) + 1, math.MinInt, math.MaxInt} {
		if v, end, ok, f := reader.One(s, off); !same(v, null) || end != 0 || ok || f != want {
			t.Errorf("%s, %d bytes: One from %d: %s, %d, %v, %v", name, len(s), off, shown(v), end, ok, f)
		}
	}
	if l, f := reader.All(s); len(l) != 0 || f != want {
		t.Errorf("%s, %d bytes: All: %d values, %v", name, len(s), len(l), f)
	}
	if v, f := reader.Single(s); !same(v, null) || f != want {
		t.Errorf("%s, %d bytes: Single: %s, %v", name, len(s), shown(v), f)
	}
}

// nests are ways of putting values into each other: what opens a level and what closes it.
func nests() [][2][2]string {
	array, object := [2]string{"[", "]"}, [2]string{`{"k":`, "}"}
	return [][2][2]string{{array, array}, {object, object}, {array, object}, {{"[", ", null]"}, {`{"k":`, `,"":[]}`}}}
}

// nested answers what opens so many levels, and what closes them.
func nested(by [2][2]string, levels int) (string, string) {
	var open strings.Builder
	end := make([]string, levels)
	for i := range levels {
		open.WriteString(by[i%2][0])
		end[levels-1-i] = by[i%2][1]
	}
	return open.String(), strings.Join(end, "")
}

func levelsOf(v api.Value) int {
	most := 0
	for _, x := range v.List {
		most = max(most, levelsOf(x))
	}
	return most + 1
}

func TestLevels(t *testing.T) {
	for _, by := range nests() {
		for _, inner := range []string{"null", "true", "false", "nan", "1", `"a"`, "[]", "{}", "[ ]", "{\n}"} {
			open, end := nested(by, api.MaxDepth-1)
			v, f := reader.Single(open + inner + end)
			if f != (api.Fault{}) || levelsOf(v) != api.MaxDepth {
				t.Errorf("%s on level 10000: %v, %d levels", inner, f, levelsOf(v))
			}
			open, end = nested(by, api.MaxDepth)
			for _, ahead := range []string{open, open + " \n", " " + open} {
				s, at := ahead+inner+end, len(ahead)
				if _, at2, ok, f := reader.One(s, 0); f != faultAt(api.ErrDepth, s, at) || at2 != at || ok {
					t.Errorf("%s on level 10001: %d, %v, %v", inner, at2, ok, f)
				}
			}
		}
	}
}

// TestFaultsAtTheLastLevel puts what is no value, or no whole one, where level 10001 would begin.
func TestFaultsAtTheLastLevel(t *testing.T) {
	for _, by := range nests() {
		open, _ := nested(by, api.MaxDepth)
		shallow, _ := nested(by, api.MaxDepth-1)
		for _, x := range []struct {
			behind string
			code   api.Errno // behind 10000 levels
			less   api.Errno // behind 9999
		}{
			{"nul", api.ErrDepth, api.ErrLiteral}, {"-", api.ErrDepth, api.ErrLiteral}, {"_x.", api.ErrDepth, api.ErrLiteral}, {"0", api.ErrDepth, api.ErrEnd},
			{`"`, api.ErrDepth, api.ErrEnd}, {`"\x`, api.ErrDepth, api.ErrEscape}, {"[", api.ErrDepth, api.ErrEnd}, {"{", api.ErrDepth, api.ErrEnd}, {"[]", api.ErrDepth, api.ErrEnd},
			{"[[", api.ErrDepth, api.ErrDepth}, {"[1", api.ErrDepth, api.ErrDepth}, {"[nul", api.ErrDepth, api.ErrDepth}, {"[\u00e9", api.ErrDepth, api.ErrJSON}, {"[,", api.ErrDepth, api.ErrJSON},
			{`{"a":`, api.ErrDepth, api.ErrEnd}, {`{"a":1`, api.ErrDepth, api.ErrDepth}, {`{"a":}`, api.ErrDepth, api.ErrJSON}, {`{"a"`, api.ErrDepth, api.ErrEnd}, {`{"\x`, api.ErrDepth, api.ErrEscape}, {"{nul", api.ErrDepth, api.ErrJSON},
			{"", api.ErrEnd, api.ErrEnd}, {" ", api.ErrEnd, api.ErrEnd}, {",", api.ErrJSON, api.ErrJSON}, {":", api.ErrJSON, api.ErrJSON}, {"\u00e9", api.ErrJSON, api.ErrJSON}, {"\x00", api.ErrJSON, api.ErrJSON}, {"(", api.ErrJSON, api.ErrJSON},
		} {
			if _, _, _, f := reader.One(open+x.behind, 0); f.Code != x.code {
				t.Errorf("%q behind 10000 levels: %v", x.behind, f)
			}
			if _, _, _, f := reader.One(shallow+x.behind, 0); f.Code != x.less {
				t.Errorf("%q behind 9999 levels: %v", x.behind, f)
			}
			checkOne(t, open+x.behind, 0)
			checkOne(t, shallow+x.behind, 0)
		}
	}
}

func TestLevelsOfManyValues(t *testing.T) {
	by := nests()[0]
	open, end := nested(by, api.MaxDepth)
	if l, f := reader.All(open + end + open + end); f != (api.Fault{}) || len(l) != 2 {
		t.Errorf("two values of 10000 levels: %d, %v", len(l), f)
	}
	if l, f := reader.All(open + end + open + "1" + end); f.Code != api.ErrDepth || f.At.Off != 3*api.MaxDepth || len(l) != 1 {
		t.Errorf("10000 levels, and 10001: %d, %v", len(l), f)
	}
	// Levels count from where reading begins.
	if _, _, ok, f := reader.One("["+open+end+"]", 1); f != (api.Fault{}) || !ok {
		t.Errorf("10000 levels from byte 1 on: %v", f)
	}
	if _, f := reader.Single(open[1:] + end[1:] + ", 1"); f.Code != api.ErrJSON {
		t.Errorf("behind 9999 levels: %v", f)
	}
	half, back := nested(by, api.MaxDepth-1)
	if v, f := reader.Single("[" + half + back + "," + half + back + "]"); f != (api.Fault{}) || len(v.List) != 2 {
		t.Errorf("two of 9999 levels within one: %v", f)
	}
}

// row answers an array's text of n noughts.
func row(n int) string {
	return "[" + strings.Repeat("0,", n-1) + "0]"
}

// fields answers the inside of an object's text of n keys with 0.
func fields(n int) string {
	var out strings.Builder
	for i := range n {
		if i > 0 {
			out.WriteByte(',')
		}
		out.WriteString(`"` + strconv.Itoa(i) + `":0`)
	}
	return out.String()
}

func TestLargeByValues(t *testing.T) {
	const most = api.MaxNodes
	for _, x := range []struct {
		name string
		s    string
		want bool
	}{
		{"an array", row(most - 1), false},
		{"an array, one more", row(most), true},
		{"an object", "{" + fields(most-1) + "}", false},
		{"an object, one more", "{" + fields(most) + "}", true},
		{"an object, a key again", "{" + fields(most-1) + `,"7":1}`, false},
		{"an object, a key with more again", "{" + fields(most-1) + `,"7":[]}`, false},
		{"an object, a key with two again", "{" + fields(most-1) + `,"7":[1]}`, true},
		{"an object, a key again with less", `{"0":[1],"0":2,` + fields(most-1) + "}", false},
		{"two within", "[" + row(most/2-1) + "," + row(most/2-2) + "]", false},
		{"two within, one more", "[" + row(most/2-1) + "," + row(most/2-1) + "]", true},
		{"a large one within", `{"a":` + row(most) + `}`, true},
		{"a large one within, alone", `{"a":` + row(most-1) + `}`, true},
		{"a large one whose key comes again", `{"a":` + row(most) + `,"a":1}`, false},
		{"a large one whose key comes again, deep", `[{"a":[` + row(most) + `,` + row(most) + `],"b":2,"a":1}]`, false},
		{"a large one whose key comes again, large", `{"a":1,"a":` + row(most) + `}`, true},
	} {
		checkLarge(t, x.name, x.s, x.want)
	}
}

// checkLarge holds whether a text's value is refused for being too large: at its first byte, when all of its text was read.
func checkLarge(t *testing.T, name, s string, want bool) {
	t.Helper()
	text := "\n " + s
	v, end, ok, f := reader.One(text, 0)
	if !want {
		if f != (api.Fault{}) || !ok || end != len(text) {
			t.Errorf("%s: %d, %v, %v", name, end, ok, f)
		}
		return
	}
	fault := faultAt(api.ErrLarge, text, 2)
	if f != fault || end != 2 || ok || !same(v, null) {
		t.Errorf("%s: %d, %v, %v", name, end, ok, f)
	}
	for _, behind := range []string{" nul", "]", ",", "1", " "} {
		if _, _, _, f := reader.One(text+behind, 0); f != fault {
			t.Errorf("%s, %q behind it: %v", name, behind, f)
		}
	}
	if _, f := reader.Single(text + "]"); f != fault {
		t.Errorf("%s, Single: %v", name, f)
	}
	if l, f := reader.All("1 2 " + s + " 3 nul"); f != faultAt(api.ErrLarge, "1 2 ", 4) || len(l) != 2 {
		t.Errorf("%s, All: %d values, %v", name, len(l), f)
	}
	for bad, code := range map[string]api.Errno{"nul": api.ErrLiteral, `"\x`: api.ErrEscape, `"`: api.ErrEnd, "": api.ErrEnd, "]": api.ErrJSON} {
		whole := "[" + s + "," + bad
		_, _, _, f := reader.One(whole, 0)
		if f.Code != code || f.At.Off < len(s)+2 {
			t.Errorf("%s, with %q within: %v", name, bad, f)
		}
	}
}

func TestLargeByBytes(t *testing.T) {
	const most = api.MaxBytes
	bad := strings.Repeat("\xff", most/3) // each becomes three bytes
	left := strings.Repeat("a", most-most/3*3)
	for _, x := range []struct {
		name string
		s    string
		want bool
	}{
		{"a string", `"` + bad + left + `"`, false},
		{"a string, one more", `"` + bad + left + `a"`, true},
		{"a key", `{"` + bad + left + `":1}`, false},
		{"a key, one more", `{"` + bad + left + `a":1}`, true},
		{"a key and a string", `{"a` + bad[:1000] + `":["` + bad[1000:] + left[1:] + `",""]}`, false},
		{"a key and a string, one more", `{"a` + bad[:1000] + `":["` + bad[1000:] + left[1:] + `","b"]}`, true},
		{"a key that comes again", `{"` + bad + left + `":1,"` + bad + left + `":2}`, false},
		{"a string whose key comes again", `{"":"` + bad + left + `a","":"` + bad[:100000] + `"}`, false},
		{"escapes", `"` + strings.Repeat(`\ud800`, 100000) + bad[:most/3-100000] + left + `"`, false},
		{"escapes, one more", `"` + strings.Repeat(`\ud800`, 100000) + bad[:most/3-100000] + left + `\n"`, true},
	} {
		checkLarge(t, x.name, x.s, x.want)
	}
}

// TestLongTextsAreQuick reads texts whose parts come as often as may be.
func TestLongTextsAreQuick(t *testing.T) {
	const most = api.MaxText
	times := func(part string) string { return strings.Repeat(part, most/len(part)) }
	for _, s := range []string{
		times("["), times("{"), times(`{"a":`), times("[]"), times("{} "), times(`{"a":0} `), times("[0] "), times("0,"), times("0 "), times("\n"), times(`"" `), times(`"`), times("\\"), times(`"\`), times("\xff"), times(mark), times("-"), times("nul "),
		`"` + times(`\u0000`), `"` + times(`\ud83d\ude00`), `"` + times(`\n`), `"` + times("\xff"), "[" + times("0,"), "[" + times("0,")[:most-4] + "0]", "[" + times("[],")[:most-4] + "0]", "{" + times(`"a":0,`), "{" + fields(90000) + "}", "{" + times(`"\ud800":"",`),
	} {
		s = s[:min(len(s), most)]
		l, f := reader.All(s)
		if _, _, ok, one := reader.One(s, 0); ok != (len(l) > 0) || !ok && one != f {
			t.Errorf("All(%q): %d values, %v; One: %v, %v", cut(s), len(l), f, ok, one)
		}
	}
}
