package stream_test

import (
	"math/rand"
	"strings"
	"testing"
	"time"

	"colander/api"
	"colander/reader"
	"colander/stream"
	"colander/value"
)

// P6.4

const mark = "\xef\xbb\xbf"

// blanks answers n to m blanks of all kinds.
func blanks(r *rand.Rand, n, m int) string {
	out := ""
	for range n + r.Intn(m-n+1) {
		i := r.Intn(4)
		out += "\t\n\r "[i : i+1]
	}
	return out
}

func faultAt(code api.Errno, s string, off int) api.Fault {
	if code == api.OK {
		return api.Fault{}
	}
	at := api.Spot{Line: 1, Col: 1, Off: off}
	for _, c := range []byte(s[:off]) {
		at.Col++
		if c == 10 {
			at.Line, at.Col = at.Line+1, 1
		}
	}
	return api.Fault{Code: code, At: at}
}

func TestReadByHand(t *testing.T) {
	for _, x := range []struct {
		s    string
		want string
		code api.Errno
		off  int
	}{
		{"", ``, api.OK, 0},
		{" \n", ``, api.OK, 0},
		{mark, ``, api.OK, 0},
		{mark + " 1", `[[],1]`, api.OK, 0},
		{" " + mark + "1", ``, api.ErrJSON, 1},
		{"1" + mark, `[[],1]`, api.ErrJSON, 1},
		{"\xef\xbb1", ``, api.ErrJSON, 0},
		{"3", `[[],3]`, api.OK, 0},
		{"1 2\n\"a\"", `[[],1] [[],2] [[],"a"]`, api.OK, 0},
		{`"a""b"[]{}`, `[[],"a"] [[],"b"] [[],[]] [[],{}]`, api.OK, 0},
		{"[1,[2]]", `[[0],1] [[1,0],2] [[1,0]] [[1]]`, api.OK, 0},
		{"[1,{\"a\":2", `[[0],1] [[1,"a"],2]`, api.ErrEnd, 9},
		{"[1,]", `[[0],1]`, api.ErrJSON, 3},
		{`{"a":[],"b":{"c":null}}`, `[["a"],[]] [["b","c"],null] [["b","c"]] [["b"]]`, api.OK, 0},
		{`{"a":1,"a":2}`, `[["a"],1] [["a"],2] [["a"]]`, api.OK, 0},
		{`{"a":1,"b":2,"a":[3]}`, `[["a"],1] [["b"],2] [["a",0],3] [["a",0]] [["a"]]`, api.OK, 0},
		{`{"a":[3],"b":2,"\u0061":1}`, `[["a",0],3] [["a",0]] [["b"],2] [["a"],1] [["a"]]`, api.OK, 0},
		{`{"a":{},"a":[]}`, `[["a"],{}] [["a"],[]] [["a"]]`, api.OK, 0},
		{"[ \n[ ] , { } ]\n", `[[0],[]] [[1],{}] [[1]]`, api.OK, 0},
		{"[", ``, api.ErrEnd, 1},
		{"[ ", ``, api.ErrEnd, 2},
		{"{", ``, api.ErrEnd, 1},
		{"[]", `[[],[]]`, api.OK, 0},
		{"[1", `[[0],1]`, api.ErrEnd, 2},
		{"[nul", ``, api.ErrLiteral, 1},
		{"[1,nul]", `[[0],1]`, api.ErrLiteral, 3},
		{"[1 ,", `[[0],1]`, api.ErrEnd, 4},
		{"[\"a", ``, api.ErrEnd, 3},
		{"[\"a\"", `[[0],"a"]`, api.ErrEnd, 4},
		{`["a\x"]`, ``, api.ErrEscape, 3},
		{`["b","\x"]`, `[[0],"b"]`, api.ErrEscape, 6},
		{"[1 2]", `[[0],1]`, api.ErrJSON, 3},
		{"[1}", `[[0],1]`, api.ErrJSON, 2},
		{"[,1]", ``, api.ErrJSON, 1},
		{"[}", ``, api.ErrJSON, 1},
		{"{]", ``, api.ErrJSON, 1},
		{"{,", ``, api.ErrJSON, 1},
		{"{1", ``, api.ErrJSON, 1},
		{"{nul", ``, api.ErrJSON, 1},
		{`{"a"`, ``, api.ErrEnd, 4},
		{`{"a" 1}`, ``, api.ErrJSON, 5},
		{`{"a",`, ``, api.ErrJSON, 4},
		{`{"a":`, ``, api.ErrEnd, 5},
		{`{"a":}`, ``, api.ErrJSON, 5},
		{`{"a":1`, `[["a"],1]`, api.ErrEnd, 6},
		{`{"a":1,`, `[["a"],1]`, api.ErrEnd, 7},
		{`{"a":1,}`, `[["a"],1]`, api.ErrJSON, 7},
		{`{"a":1]`, `[["a"],1]`, api.ErrJSON, 6},
		{`{"a":1 "b"`, `[["a"],1]`, api.ErrJSON, 7},
		{`{"a":1,"b`, `[["a"],1]`, api.ErrEnd, 9},
		{`{"a":1,"b\`, `[["a"],1]`, api.ErrEscape, 9},
		{`{"a":1,nul:2}`, `[["a"],1]`, api.ErrJSON, 7},
		{`{"a":[1,2`, `[["a",0],1] [["a",1],2]`, api.ErrEnd, 9},
		{`{"a":[1]`, `[["a",0],1] [["a",0]]`, api.ErrEnd, 8},
		{`[[[`, ``, api.ErrEnd, 3},
		{`[[[]`, `[[0,0],[]]`, api.ErrEnd, 4},
		{`[[[]]`, `[[0,0],[]] [[0,0]]`, api.ErrEnd, 5},
		{"1,2", `[[],1]`, api.ErrJSON, 1},
		{"1 ]", `[[],1]`, api.ErrJSON, 2},
		{"[1]]", `[[0],1] [[0]]`, api.ErrJSON, 3},
		{"[1]\nnul [2]", `[[0],1] [[0]]`, api.ErrLiteral, 4},
		{":", ``, api.ErrJSON, 0},
		{"\x00", ``, api.ErrJSON, 0},
		{"[\u00e9]", ``, api.ErrJSON, 1},
		{"\v1", ``, api.ErrJSON, 0},
		{"[\f1]", ``, api.ErrJSON, 1},
		{"[1\v]", `[[0],1]`, api.ErrJSON, 2},
		{"{\"a\"\x00:1}", ``, api.ErrJSON, 4},
		{"[\x1e1]", ``, api.ErrJSON, 1},
		{"1.5e1.", ``, api.ErrLiteral, 0},
		{"[\"\\u00e9\",\"\xff\"]", `[[0],"é"] [[1],"` + "\ufffd" + `"] [[1]]`, api.OK, 0},
		{"{\"\\ud83d\\ude00\":\"\n\"}", `[["` + "\U0001f600" + `"],"\n"] [["` + "\U0001f600" + `"]]`, api.OK, 0},
		{`{"\ud83d":{"` + "\xff" + `":1}}`, `[["` + "\ufffd\",\"\ufffd" + `"],1] [["` + "\ufffd\",\"\ufffd" + `"]] [["` + "\ufffd" + `"]]`, api.OK, 0},
	} {
		want := faultAt(x.code, x.s, x.off)
		if got, f := stream.Read(x.s); f != want || !sameRow(got, vals(x.want)) {
			t.Errorf("Read(%q) = %s, %v, want %s, %v", x.s, shown(got...), f, x.want, want)
		}
		checkRead(t, x.s)
	}
	if got, f := stream.Read("[nan,-nan]"); len(got) != 1 || !same(got[0], leafAt(pathOf(0), nan)) || f != faultAt(api.ErrLiteral, "[nan,-nan]", 5) {
		t.Error("NaN:", shown(got...), f)
	}
	if _, f := stream.Read("[1,{\"a\":2"); f.At != (api.Spot{Line: 1, Col: 10, Off: 9}) {
		t.Error("the second example:", f)
	}
}

// TestReadOfAllShortTexts has all rows of a few parts.
func TestReadOfAllShortTexts(t *testing.T) {
	parts := []string{"[", "]", "{", "}", ",", ":", "1", `"a"`, " ", "nul", `"`}
	texts := []string{""}
	for range 5 {
		var longer []string
		for _, s := range texts {
			for _, p := range parts {
				checkRead(t, s+p)
				if len(s) < 12 {
					longer = append(longer, s+p)
				}
			}
		}
		texts = longer
	}
}

// textOf writes a tree, whose keys may come again, with blanks.
func textOf(r *rand.Rand, of tree) string {
	if len(of.parts) == 0 {
		switch of.leaf.Kind {
		case api.Array:
			return "[" + blanks(r, 0, 1) + "]"
		case api.Object:
			return "{" + blanks(r, 0, 1) + "}"
		}
		return value.Text(of.leaf)
	}
	open, end := "[", "]"
	if of.parts[0].key.Kind == api.String {
		open, end = "{", "}"
	}
	var out []string
	for _, p := range of.parts {
		s := blanks(r, 0, 1)
		if open == "{" {
			s += value.Text(p.key) + blanks(r, 0, 1) + ":" + blanks(r, 0, 1)
		}
		out = append(out, s+textOf(r, p.of)+blanks(r, 0, 1))
	}
	return open + strings.Join(out, ",") + end
}

func TestReadOfTrees(t *testing.T) {
	r := rand.New(rand.NewSource(65))
	pieces := []string{"[", "]", "{", "}", ",", ":", `"`, `\`, "1", "nul", " ", "\n", "\xff", mark, "\x00", `"a":`, "null,", `\u00e9`}
	for range 40000 {
		s := ""
		if r.Intn(8) == 0 {
			s = mark
		}
		var want []api.Value
		for range r.Intn(3) {
			of := someTree(r, 4)
			s += textOf(r, of) + blanks(r, 1, 2)
			want = append(want, of.events()...)
		}
		if got, f := stream.Read(s); f != (api.Fault{}) || !sameRow(got, want) {
			t.Fatalf("Read(%q) = %s, %v, want %s", s, shown(got...), f, shown(want...))
		}
		checkRead(t, s[:r.Intn(len(s)+1)])
		for range 1 + r.Intn(2) {
			i := r.Intn(len(s) + 1)
			j := i + r.Intn(min(3, len(s)-i+1))
			s = s[:i] + pieces[r.Intn(len(pieces))] + s[j:]
		}
		checkRead(t, s)
	}
}

// TestReadOfDeepTexts has values on the last level that may be, and on the one behind it.
func TestReadOfDeepTexts(t *testing.T) {
	for _, open := range []string{"[", `{"k":`, "[ {\"k\":", "\n["} {
		n := strings.Count(open, "[") + strings.Count(open, "{")
		above := strings.Repeat(open, 9999/n+1)
		levels := n * (9999/n + 1)
		for levels > 9999 { // one more than may stand around a value
			above = above[:max(strings.LastIndexByte(above, '['), strings.LastIndexByte(above, '{'))]
			levels--
		}
		for leaf, want := range map[string]api.Value{"1": num(1), `"a"`: str("a"), "[]": arr(), "{ }": obj("")} {
			s := above + leaf
			got, f := stream.Read(s)
			if len(got) != 1 || len(got[0].List[0].List) != 9999 || !same(got[0].List[1], want) || f != faultAt(api.ErrEnd, s, len(s)) {
				t.Fatalf("%q at level 10000: %d events, %v", leaf, len(got), f)
			}
		}
		for _, more := range []string{"", " \n"} {
			ahead := above + "[" + more
			for s, code := range map[string]api.Errno{
				"1": api.ErrDepth, "[": api.ErrDepth, "{": api.ErrDepth, `"`: api.ErrDepth, `"\x"`: api.ErrDepth, "nul": api.ErrDepth, "-": api.ErrDepth, "+.": api.ErrDepth, "_": api.ErrDepth, "[]": api.ErrDepth,
				",": api.ErrJSON, "}": api.ErrJSON, ":": api.ErrJSON, "\xff": api.ErrJSON, "\u00e9": api.ErrJSON, "\x00": api.ErrJSON, "": api.ErrEnd,
			} {
				want := faultAt(code, ahead+s, len(ahead))
				if got, f := stream.Read(ahead + s); f != want || len(got) != 0 {
					t.Errorf("%q on level 10001: %d events, %v, want %v", s, len(got), f, want)
				}
				if _, f := reader.All(ahead + s); f != want {
					t.Errorf("%q on level 10001: All says %v", s, f)
				}
			}
			s := ahead + "]"
			if got, f := stream.Read(s); len(got) != 1 || f != faultAt(api.ErrEnd, s, len(s)) {
				t.Errorf("an empty array on level 10000: %d events, %v", len(got), f)
			}
		}
		s := "1 [2] " + above + "{\"a\" : 3"
		if got, f := stream.Read(s); len(got) != 3 || f != faultAt(api.ErrDepth, s, len(s)-1) {
			t.Errorf("values ahead of what is too deep: %d events, %v", len(got), f)
		}
	}
}

// longText writes a string that has so many bytes when it has been read.
func longText(n int) string {
	return `"` + strings.Repeat("\xff", n/3) + strings.Repeat("a", n%3) + `"`
}

// TestReadOfLargeParts has leaves and keys that are Large by themselves.
func TestReadOfLargeParts(t *testing.T) {
	good, bad := longText(api.MaxBytes), longText(api.MaxBytes+1)
	for _, x := range []struct {
		ahead string
		s     string
		want  string
	}{
		{"", "", ``},
		{"1 \n ", " 2", `[[],1]`},
		{"[", "]", ``},
		{"[", "", ``},
		{"[1,\n\n  ", " nul", `[[0],1]`},
		{`{"a":1,"b":`, "}", `[["a"],1]`},
		{`{"a":[1],"b": `, "x", `[["a",0],1] [["a",0]]`},
		{`{`, ":1}", ``},
		{`{`, " 1}", ``},
		{`{`, "", ``},
		{"{ \n", ":", ``},
		{`[2,{"a":1,`, ":2}]", `[[0],2] [[1,"a"],1]`},
		{mark, "", ``},
	} {
		s := x.ahead + bad + x.s
		want := faultAt(api.ErrLarge, s, len(x.ahead))
		if got, f := stream.Read(s); f != want || !sameRow(got, vals(x.want)) {
			t.Errorf("a large part behind %q: %s, %v, want %s, %v", x.ahead, shown(got...), f, x.want, want)
		}
		s = x.ahead + good + x.s
		if _, f := stream.Read(s); f.Code == api.ErrLarge {
			t.Errorf("a part behind %q is not too large: %v", x.ahead, f)
		}
		if _, f := stream.Read(x.ahead + bad[:len(bad)-1]); f.Code != api.ErrEnd {
			t.Errorf("a part behind %q that does not end: %v", x.ahead, f)
		}
	}
	s := bad[:len(bad)-1] + `\x"`
	if got, f := stream.Read(s); len(got) != 0 || f != faultAt(api.ErrEscape, s, len(s)-3) {
		t.Errorf("a bad escape in a large part: %v", f)
	}
}

// TestReadOfLargeWholes has values that All refuses, though no part of them is too large by itself.
func TestReadOfLargeWholes(t *testing.T) {
	half := longText(api.MaxBytes / 2)
	for name, s := range map[string]string{
		"many":  "[1" + strings.Repeat(",1", api.MaxNodes) + "]",
		"empty": "[[]" + strings.Repeat(",[]", api.MaxNodes) + "]",
		"long":  "[" + half + "," + half + "," + half + "]",
		"keys":  "{" + half + ":1,\"a\":{" + half + ":" + half + "}}",
	} {
		if _, f := reader.All(s); f != faultAt(api.ErrLarge, s, 0) {
			t.Fatal(name, "is not too large:", f)
		}
		got, f := stream.Read(s + " 5")
		last := api.Value{}
		if len(got) > 0 {
			last = got[len(got)-1]
		}
		if f != (api.Fault{}) || !same(last, leafAt(nil, num(5))) {
			t.Errorf("%s: %d events, %v", name, len(got), f)
		}
		back, e := stream.Back(got)
		if e != api.OK || len(back) != 2 || !value.Large(back[0]) {
			t.Errorf("%s: Back: %d values, %d", name, len(back), e)
		}
		if name == "many" && len(got) != api.MaxNodes+3 {
			t.Errorf("%d events of %d leaves", len(got), api.MaxNodes+1)
		}
		if _, f := stream.Read(s + "]"); f != faultAt(api.ErrJSON, s+"]", len(s)) {
			t.Errorf("%s, and what may not stand there: %v", name, f)
		}
	}
}

func TestReadOfLongTexts(t *testing.T) {
	full := "1 [2" + strings.Repeat(" ", api.MaxText-7) + "] ,"
	if got, f := stream.Read(full); len(full) != api.MaxText || len(got) != 3 || f != faultAt(api.ErrJSON, full, len(full)-1) {
		t.Error(len(full), len(got), f)
	}
	for _, s := range []string{full + " ", "1" + strings.Repeat(" ", api.MaxText), strings.Repeat(" ", api.MaxText+1), strings.Repeat("]", 2*api.MaxText), `"` + strings.Repeat("a", api.MaxText)} {
		if got, f := stream.Read(s); len(got) != 0 || f != (api.Fault{Code: 45}) {
			t.Errorf("a text of %d bytes: %d events, %v", len(s), len(got), f)
		}
	}
}

func TestReadIsQuick(t *testing.T) {
	start := time.Now()
	for _, x := range []struct {
		s    string
		want int
	}{
		{"[" + strings.Repeat("1,", 500000) + "1]", 500002},
		{strings.Repeat("1 ", 500000), 500000},
		{strings.Repeat("[]", 500000), 500000},
		{"{" + strings.Repeat(`"a":1,`, 170000) + `"a":1}`, 170002},
		{strings.Repeat("[", 1000000), 0},
		{strings.Repeat(`[1,`, 1000), 1000},
		{strings.Repeat(" ", 1000000), 0},
		{`"` + strings.Repeat(`\n`, 500000) + `"`, 1},
	} {
		if got, _ := stream.Read(x.s); len(got) != x.want {
			t.Errorf("Read(%q): %d events, want %d", cut(x.s), len(got), x.want)
		}
	}
	if d := time.Since(start); d > 30*time.Second {
		t.Error("slow:", d)
	}
}

func TestReadIsNew(t *testing.T) {
	s := `{"some key":["a string",{"other":"\u0041b"}],"c":[[]]} "end"`
	for range 2 {
		l, _ := stream.Read(s)
		want, _ := readOf(s)
		if !sameRow(l, want) {
			t.Fatalf("Read(%q) = %s, want %s", s, shown(l...), shown(want...))
		}
		eachStr(arr(l...), func(part string) {
			if within(part, s) {
				t.Errorf("%q stands in the text's own memory", part)
			}
		})
		for i := range l {
			spoil(l[i])
			for j := i + 1; j < len(l); j++ {
				if !same(l[j], want[j]) {
					t.Fatalf("events %d and %d share a list", i, j)
				}
			}
		}
	}
}
