package reader_test

import (
	"math"
	"strings"
	"testing"

	"colander/api"
	"colander/reader"
	"colander/sample"
)

// P4.2

// checkSingle holds that a text is a value's.
func checkSingle(t *testing.T, s string, want api.Value) {
	t.Helper()
	if got, f := reader.Single(s); f != (api.Fault{}) || !same(got, want) {
		t.Errorf("Single(%q) = %s, %v, want %s", cut(s), shown(got), f, shown(want))
	}
	if got, end, ok, f := reader.One(" "+s+" ", 0); f != (api.Fault{}) || !ok || end != len(s)+1 || !same(got, want) {
		t.Errorf("One(%q) = %s, %d, %v, %v, want %s", cut(s), shown(got), end, ok, f, shown(want))
	}
}

// checkFault holds that Single and One of a text are refused with a fault at a byte.
func checkFault(t *testing.T, s string, code api.Errno, off int) {
	t.Helper()
	want := faultAt(code, s, off)
	if got, f := reader.Single(s); f != want || !same(got, null) {
		t.Errorf("Single(%q) = %s, %v, want %v", cut(s), shown(got), f, want)
	}
	if got, end, ok, f := reader.One(s, 0); f != want || ok || end != off || !same(got, null) {
		t.Errorf("One(%q) = %s, %d, %v, %v, want %v", cut(s), shown(got), end, ok, f, want)
	}
	if l, f := reader.All("1 " + s); f.Code != code || f.At.Off != off+2 || !sameRow(l, []api.Value{num(1)}) {
		t.Errorf("All(%q) = %s, %v, want %v", "1 "+cut(s), shown(l...), f, want)
	}
}

func TestWords(t *testing.T) {
	minusZero := math.Copysign(0, -1)
	for s, want := range map[string]api.Value{
		"null": null, "true": yes, "false": no, "nan": nan,
		"0": num(0), "-0": num(minusZero), "+0": num(0), "7": num(7), "-7": num(-7), "+7": num(7), "007": num(7), "12.50": num(12.5),
		".5": num(0.5), "5.": num(5), "-.5": num(-0.5), "+5.": num(5), "1e2": num(100), "1E2": num(100), "1e+2": num(100), "1E-2": num(0.01), "5.e1": num(50), ".5e1": num(5), "-0.5e1": num(-5), "-0.0": num(minusZero),
		"1e1000": num(math.Inf(1)), "-1e1000": num(math.Inf(-1)), "1e-1000": num(0), "-1e-1000": num(minusZero),
		"123456789012345680": num(123456789012345680), "9007199254740993": num(9007199254740992), "1.7976931348623157e+308": num(math.MaxFloat64), "5e-324": num(5e-324),
		strings.Repeat("1", 400): num(math.Inf(1)), "0." + strings.Repeat("0", 400) + "1": num(0), strings.Repeat("0", 400) + "3": num(3),
	} {
		checkSingle(t, s, want)
		checkSingle(t, "["+s+"]", arr(want))
		checkSingle(t, "["+s+","+s+"]", arr(want, want))
		checkSingle(t, `{"a":`+s+`}`, obj("a", want))
	}
}

func TestNotWords(t *testing.T) {
	for _, s := range []string{
		"nul", "nulll", "Null", "NULL", "tru", "truee", "True", "fals", "False", "falsefalse", "nulltrue", "null0", "0null", "_null", "null_", "-null", "null-", "null.", ".null", "n", "t", "f",
		"NaN", "Nan", "NAN", "nan0", "-nan", "+nan", "nann", "nanan", "nan-", "inf", "Infinity", "-Infinity", "infinity", "undefined", "None",
		"-", "+", ".", "_", "e", "E", "e5", ".e5", "-.", "+.", "--1", "++1", "+-1", "1-", "1+", "1-2", "1+2", "1.2.3", "1..2", "1e", "1e+", "1e-", "1e1.", "1e1.5", "1e1e1", "1_0", "_1", "1_", "0x1", "0x", "0b1", "0o7", "1f", "1a", "a1", "abc", "x", "Z", "z", "A", "a",
	} {
		checkFault(t, s, api.ErrLiteral, 0)
		checkFault(t, "["+s+"]", api.ErrLiteral, 1)
		checkFault(t, "["+s+",2]", api.ErrLiteral, 1)
		checkFault(t, "[\n 1,"+s, api.ErrLiteral, 5)
		checkFault(t, `{"a":`+s+`}`, api.ErrLiteral, 5)
	}
}

// TestEachByteOfWords puts each byte ahead of words, within them and behind them: which bytes a word has is told by where it ends.
func TestEachByteOfWords(t *testing.T) {
	for b := range 256 {
		c := string([]byte{byte(b)})
		for _, s := range []string{c, c + c, c + "1", "1" + c, "1" + c + "1", "null" + c, c + "null", "nu" + c + "ll", "nan" + c, "1e" + c + "1", "[1" + c + "1]", "[nul" + c + "]", "x" + c + "x"} {
			checkText(t, s)
		}
		isLetter := b >= 'a' && b <= 'z' || b >= 'A' && b <= 'Z'
		isDigit := b >= '0' && b <= '9'
		belongs := isLetter || isDigit || b == '_' || b == '+' || b == '-' || b == '.'
		// A word that goes on is none any more; the one that has ended is a value.
		if l, _ := reader.All("null" + c); (len(l) == 0) != belongs {
			t.Errorf("byte %d behind null: %s", b, shown(l...))
		}
	}
}

// TestPartsSideBySide asks for values between which no blank stands.
func TestPartsSideBySide(t *testing.T) {
	for s, want := range map[string][]api.Value{
		`1"a"`:                          {num(1), str("a")},
		`"a"1`:                          {str("a"), num(1)},
		`"a""b"""`:                      {str("a"), str("b"), str("")},
		`[][1]{}`:                       {arr(), arr(num(1)), obj("")},
		`null[]true{}false"a"nan`:       {null, arr(), yes, obj(""), no, str("a"), nan},
		`{"a":1}{"a":2}[{}]2`:           {obj("a", num(1)), obj("a", num(2)), arr(obj("")), num(2)},
		`1 -2+3`:                        {num(1)},
		"1\n-2\r+3\t.4":                 {num(1), num(-2), num(3), num(0.4)},
		`[1]2 3[4]`:                     {arr(num(1)), num(2), num(3), arr(num(4))},
		` null null  nan "nan" [null] `: {null, null, nan, str("nan"), arr(null)},
	} {
		if got, _ := reader.All(s); !sameRow(got, want) {
			t.Errorf("All(%q) = %s, want %s", s, shown(got...), shown(want...))
		}
		checkPlaces(t, s)
	}
}

func TestArraysAndObjects(t *testing.T) {
	for s, want := range map[string]api.Value{
		`[]`:                            arr(),
		`{}`:                            obj(""),
		`[[]]`:                          arr(arr()),
		`[{}]`:                          arr(obj("")),
		`[[],[],{}]`:                    arr(arr(), arr(), obj("")),
		`[null,true,false,1,"a",[],{}]`: arr(null, yes, no, num(1), str("a"), arr(), obj("")),
		`{"a":[]}`:                      obj("a", arr()),
		`{"b":1,"a":2}`:                 obj("b a", num(1), num(2)),
		`{"":null,"a":{"":{}}}`:         obj("_ a", null, obj("_", obj(""))),
		`{"a":{"a":{"a":1}}}`:           obj("a", obj("a", obj("a", num(1)))),
		`{"null":null,"true":true}`:     obj("null true", null, yes),
		`{"\u0061\n":1}`:                {Kind: api.Object, Keys: []string{"a\n"}, List: []api.Value{num(1)}},
		`{"\ud83d\ude00":1}`:            obj("\U0001f600", num(1)),
		"{\"a\xffb\":1}":                obj("a\ufffdb", num(1)),
	} {
		checkSingle(t, s, want)
	}
}

func TestKeysThatComeAgain(t *testing.T) {
	for s, want := range map[string]api.Value{
		`{"a":1,"a":2}`:                           obj("a", num(2)),
		`{"a":1,"b":2,"a":3}`:                     obj("a b", num(3), num(2)),
		`{"a":1,"b":2,"c":3,"b":[4],"a":{"b":5}}`: obj("a b c", obj("b", num(5)), arr(num(4)), num(3)),
		`{"a":1,"a":2,"a":3,"a":null}`:            obj("a", null),
		`{"":1,"":2}`:                             obj("_", num(2)),
		`{"a":1,"A":2}`:                           obj("a A", num(1), num(2)),
		`{"a":1,"\u0061":2}`:                      obj("a", num(2)),
		"{\"\xff\":1,\"b\":2,\"\x80\":3}":         obj("\ufffd b", num(3), num(2)),
		"{\"\xff\":1,\"\ufffd\":2}":               obj("\ufffd", num(2)),
		"{\"\ufffd\":1,\"\\udfff\":2}":            obj("\ufffd", num(2)),
		"{\"\xe2\x82\":1,\"\xff\":2}":             obj("\ufffd\ufffd \ufffd", num(1), num(2)),
		`{"a":{"b":1},"a":{"c":2}}`:               obj("a", obj("c", num(2))),
		`{"a":{"a":1,"a":2},"a":{"a":3,"a":4}}`:   obj("a", obj("a", num(4))),
		`[{"a":1},{"a":2}]`:                       arr(obj("a", num(1)), obj("a", num(2))),
		`{"b":{"a":1},"a":2}`:                     obj("b a", obj("a", num(1)), num(2)),
	} {
		checkSingle(t, s, want)
		checkText(t, s)
	}
	checkFault(t, `{"a":1,"a":nul}`, api.ErrLiteral, 11)
	checkFault(t, `{"a":1,"a"}`, api.ErrJSON, 10)
}

func TestEscapes(t *testing.T) {
	for s, want := range map[string]string{
		`""`: "", `"a"`: "a", `"\""`: "\"", `"\\"`: "\\", `"\/"`: "/", `"/"`: "/", `"\b"`: "\x08", `"\f"`: "\x0c", `"\n"`: "\x0a", `"\r"`: "\x0d", `"\t"`: "\x09",
		`"a\"b\\c\/d\be\ff\ng\rh\ti"`: "a\"b\\c/d\x08e\x0cf\x0ag\x0dh\x09i",
		`"\\n"`:                       "\\n",
		`"\\\n\\"`:                    "\\\n\\",
		`"\\u0041"`:                   "\\u0041",
		`"\\\u0041"`:                  "\\A",
		`"\u0000\u001f\u007f"`:        "\x00\x1f\x7f",
		`"\u0041\u00e9\u20AC\uFFFF"`:  "A\u00e9\u20ac\uffff",
		`"\uabcd\uABCD\uAbCd"`:        "\uabcd\uabcd\uabcd",
		`"\u00411"`:                   "A1",
		`"\u0041\n"`:                  "A\n",
		`"\ufeff\ufffd\ufffe"`:        "\ufeff\ufffd\ufffe",
		`"\ud83d\ude00"`:              "\U0001f600",
		`"\uD83D\uDE00"`:              "\U0001f600",
		`"\ud83D\uDe00"`:              "\U0001f600",
		`"a\ud83d\ude00b"`:            "a\U0001f600b",
		`"\ud83d\ude00\ud83d\ude01"`:  "\U0001f600\U0001f601",
		`"\ud83d"`:                    "\ufffd",
		`"\ude00"`:                    "\ufffd",
		`"\ud83d\ud83d"`:              "\ufffd\ufffd",
		`"\ude00\ude00"`:              "\ufffd\ufffd",
		`"\ude00\ud83d"`:              "\ufffd\ufffd",
		`"\ude00\ud83d\ude00"`:        "\ufffd\U0001f600",
		`"\ud83d\ud83d\ude00"`:        "\ufffd\U0001f600",
		`"\ud83d\ude00\ude00"`:        "\U0001f600\ufffd",
		`"\ud83d\ude00\ud83d"`:        "\U0001f600\ufffd",
		`"\ud83d \ude00"`:             "\ufffd \ufffd",
		`"\ud83dx\ude00"`:             "\ufffdx\ufffd",
		`"\ud83d\\ude00"`:             "\ufffd\\ude00",
		`"\ud83d\n\ude00"`:            "\ufffd\n\ufffd",
		`"\ud83d\u0041"`:              "\ufffdA",
		`"\u0041\ude00"`:              "A\ufffd",
		`"\ud83dude00"`:               "\ufffdude00",
		`"\uD800\uDC00\uDBFF\uDFFF"`:  "\U00010000\U0010ffff",
	} {
		checkSingle(t, s, str(want))
		checkSingle(t, "{"+s+":"+s+"}", api.Value{Kind: api.Object, Keys: []string{want}, List: []api.Value{str(want)}})
		checkText(t, s)
	}
}

func TestNoEscapes(t *testing.T) {
	for s, off := range map[string]int{
		`"\x"`: 1, `"\a"`: 1, `"\v"`: 1, `"\0"`: 1, `"\'"`: 1, `"\ "`: 1, `"\U0041"`: 1, `"\N"`: 1, `"\B"`: 1, "\"\\\n\"": 1, "\"\\\x00\"": 1, "\"\\\xff\"": 1, "\"\\\u00e9\"": 1,
		`"\u"`: 1, `"\u1"`: 1, `"\u12"`: 1, `"\u123"`: 1, `"\u123g"`: 1, `"\ug123"`: 1, `"\u 123"`: 1, `"\u12 3"`: 1, `"\u+123"`: 1, `"\u-123"`: 1, `"\u0x12"`: 1, `"\u1_23"`: 1, `"\u{41}"`: 1, `"\u00é9"`: 1, `"\u004\u0041"`: 1,
		`"ab\qc"`: 3, `"a\n\q"`: 4, `"\\\q"`: 3, `"\u0041\q"`: 7, `"\ud83d\q"`: 7, `"\ud83d\u12"`: 7, `"\ud83d\udg00"`: 7, `"\ud83d\ude00\u"`: 13,
		`"a\q`: 2, `"\x\y"`: 1, `"\`: 1, `"\u`: 1, `"\u00`: 1, `"\u004`: 1, `"a\u004`: 2, `"\ud83d\`: 7, `"\ud83d\u`: 7, `"\ud83d\ude0`: 7, `"\"\`: 3,
	} {
		checkFault(t, s, api.ErrEscape, off)
		checkFault(t, "\n["+s, api.ErrEscape, off+2)
		checkFault(t, "{"+s, api.ErrEscape, off+1)
		checkFault(t, `{"a": `+s, api.ErrEscape, off+6)
		checkText(t, s)
	}
}

// TestEachByteOfEscapes puts each byte behind a backslash, and in the place of each digit.
func TestEachByteOfEscapes(t *testing.T) {
	for b := range 256 {
		c := string([]byte{byte(b)})
		for _, s := range []string{`"\` + c + `"`, `"\` + c, `"\` + c + `0041"`, `"\u` + c + `041"`, `"\u0` + c + `41"`, `"\u00` + c + `1"`, `"\u004` + c + `"`, `"\u004` + c, `"\ud83d\ude0` + c + `"`, `"\ud83d` + c + `ude00"`, `"\ud83d\` + c + `de00"`, `"\ud` + c + `3d\ude00"`, `"\ud83d\ud` + c + `00"`} {
			checkText(t, s)
		}
		_, f := reader.Single(`"\` + c + `"`)
		if good := strings.Contains(`/\bfnrt`, c) && f.Code == api.OK || c == `\` && f.Code == api.ErrEnd; !good && c != `"` && f != faultAt(api.ErrEscape, `"\`+c, 1) {
			t.Errorf("escape of byte %d: %v", b, f)
		}
	}
}

func TestEachUnit(t *testing.T) {
	const hex, upper = "0123456789abcdef", "0123456789ABCDEF"
	for u := range 65536 {
		want := string(rune(u)) // a half alone becomes the replacement so
		for _, digits := range []string{hex, upper} {
			s := `"\u` + string([]byte{digits[u>>12], digits[u>>8&15], digits[u>>4&15], digits[u&15]}) + `"`
			if got, f := reader.Single(s); f.Code != api.OK || got.Str != want {
				t.Fatalf("Single(%q) = %q, %v, want %q", s, got.Str, f, want)
			}
		}
	}
}

// TestPairs puts units from all sides of the edges right behind each other.
func TestPairs(t *testing.T) {
	units := []string{"0000", "0041", "d7ff", "d800", "d801", "dabc", "dbfe", "dbff", "dc00", "dc01", "dead", "dffe", "dfff", "e000", "fffd", "ffff", "DBFF", "DFFF"}
	for _, a := range units {
		for _, b := range units {
			for _, c := range []string{"", "x", `\n`, `\ud800`, `\udc00`, `\q`} {
				checkText(t, `"\u`+a+`\u`+b+c+`"`)
				checkText(t, `"\u`+a+c+`\u`+b+`"`)
			}
		}
	}
	checkSingle(t, `"\ud800\udfff\udbff\udc00"`, str("\U000103ff\U0010fc00"))
}

func TestWhatStandsInStrings(t *testing.T) {
	for b := range 256 {
		c := string([]byte{byte(b)})
		if c == `"` || c == `\` {
			continue
		}
		want := c
		if b >= 128 {
			want = "\ufffd"
		}
		checkSingle(t, `"`+c+`"`, str(want))
		checkSingle(t, `"a`+c+`b"`, str("a"+want+"b"))
		checkSingle(t, `{"`+c+`":"`+c+`"}`, api.Value{Kind: api.Object, Keys: []string{want}, List: []api.Value{str(want)}})
	}
	for s, want := range map[string]string{
		"a\u00e9\u20ac\U0001f600\U0010ffff": "a\u00e9\u20ac\U0001f600\U0010ffff",
		"\ufffd":                            "\ufffd",
		"\xe2\x82":                          "\ufffd\ufffd",
		"\xe2\x82a":                         "\ufffd\ufffda",
		"\xe2\x82\\u0041":                   "\ufffd\ufffdA",
		"\xe2\x82\\u00ac":                   "\ufffd\ufffd\u00ac",
		"\\u00e9\xa9":                       "\u00e9\ufffd",
		"\\u00e9\u00e9\xc3":                 "\u00e9\u00e9\ufffd",
		"\xc3\\n\xa9":                       "\ufffd\n\ufffd",
		"\\ud83d\xff\\ude00":                "\ufffd\ufffd\ufffd",
		"\xed\xa0\xbd\xed\xb8\x80":          strings.Repeat("\ufffd", 6),
		"\xc0\x80":                          "\ufffd\ufffd",
		"\xf4\x90\x80\x80":                  strings.Repeat("\ufffd", 4),
		"\xf0\x9f\x98":                      strings.Repeat("\ufffd", 3),
		"\xff\xfe\x80":                      strings.Repeat("\ufffd", 3),
		"null [1,2] {:}, \t\n\r":            "null [1,2] {:}, \t\n\r",
		"\xef\xbb\xbf":                      "\ufeff",
	} {
		checkSingle(t, `"`+s+`"`, str(want))
		checkText(t, `"`+s+`"`)
	}
}

// TestBadBytesEverywhere puts odd bytes and escapes side by side.
func TestBadBytesEverywhere(t *testing.T) {
	sample.EachText([]string{"a", "\xc3", "\xa9", "\xe2\x82", "\xac", `\u00e9`, `\ud83d`, `\ude00`, `\n`, "\xff"}, 4, func(s string) {
		checkText(t, `"`+s+`"`)
	})
}
