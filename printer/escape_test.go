package printer_test

import (
	"encoding/json"
	"math/rand"
	"strings"
	"testing"

	"colander/api"
	"colander/printer"
	"colander/runes"
	"colander/value"
)

// P5.2

func TestColour(t *testing.T) {
	for _, x := range []struct {
		want string
		l    []api.Value
	}{
		{"1;30", []api.Value{null, {}}},
		{"0;39", []api.Value{no, yes, num(0), minus, num(1e300), nan, inf}},
		{"0;32", []api.Value{str(""), str("a"), str("null")}},
		{"1;39", []api.Value{arr(), arr(null), arr(str("a")), obj(""), obj("a", num(1))}},
	} {
		for _, v := range x.l {
			if got := printer.Colour(v); got != x.want {
				t.Errorf("Colour(%s) = %s, want %s", value.Text(v), got, x.want)
			}
		}
	}
}

func TestEscapeByHand(t *testing.T) {
	for _, x := range [][3]string{
		{"", `""`, `""`}, {"a b", `"a b"`, `"a b"`}, {"\"\\/'<>&", `"\"\\/'<>&"`, `"\"\\/'<>&"`},
		{"\b\f\n\r\t", `"\b\f\n\r\t"`, `"\b\f\n\r\t"`}, {"\x00\v\x1f\x7f", `"\u0000\u000b\u001f\u007f"`, `"\u0000\u000b\u001f\u007f"`},
		{"~\u0080\u00ff", "\"~\u0080\u00ff\"", `"~\u0080\u00ff"`}, {"é€", `"é€"`, `"\u00e9\u20ac"`},
		{"\ud7ff\ue000\ufffd\uffff", "\"\ud7ff\ue000\ufffd\uffff\"", `"\ud7ff\ue000\ufffd\uffff"`},
		{"\U00010000", "\"\U00010000\"", `"\ud800\udc00"`}, {"\U0001f600", "\"\U0001f600\"", `"\ud83d\ude00"`}, {"\U000103ff\U00010400", "\"\U000103ff\U00010400\"", `"\ud800\udfff\ud801\udc00"`}, {"\U0010ffff", "\"\U0010ffff\"", `"\udbff\udfff"`},
		// Bad bytes count as the code point 65533, as in each text.
		{"a\xffb", "\"a\ufffdb\"", `"a\ufffdb"`}, {"\xe2\x82", "\"\ufffd\ufffd\"", `"\ufffd\ufffd"`}, {"\xed\xa0\x80", "\"\ufffd\ufffd\ufffd\"", `"\ufffd\ufffd\ufffd"`},
	} {
		if got := printer.Escape(x[0], false); got != x[1] {
			t.Errorf("Escape(%q, false) = %s, want %s", x[0], got, x[1])
		}
		if got := printer.Escape(x[0], true); got != x[2] {
			t.Errorf("Escape(%q, true) = %s, want %s", x[0], got, x[2])
		}
	}
}

// checkEscape holds Escape against the model, layer 3's Text, Print, and Go's own reader.
func checkEscape(t *testing.T, s string) {
	t.Helper()
	for _, ascii := range []bool{false, true} {
		got := printer.Escape(s, ascii)
		if want := quoted(s, ascii); got != want {
			t.Fatalf("Escape(%q, %v) = %s, want %s", s, ascii, got, want)
		}
		if !ascii && got != value.Text(str(s)) {
			t.Fatalf("Escape(%q, false) = %s, Text is another", s, got)
		}
		if text := printed(t, obj("k", str(s)), api.Style{Ascii: ascii}); text != `{"k":`+got+"}" {
			t.Fatalf("Escape(%q, %v) = %s, Print is %s", s, ascii, got, text)
		}
		var back string
		if err := json.Unmarshal([]byte(got), &back); err != nil || back != s {
			t.Fatalf("Escape(%q, %v) = %s, which is read as %q, %v", s, ascii, got, back, err)
		}
	}
}

func TestEscapeOfEachPoint(t *testing.T) {
	for p := range rune(0x110000) {
		// All pairs of surrogates are told by the edges of their halves, and by a row of the others.
		if p >= 0xd800 && p <= 0xdfff || p > 0x10800 && p < 0x10f000 && p%61 > 0 && p%1024 > 1 && p%1024 < 1022 {
			continue
		}
		checkEscape(t, "a"+string(p)+"0")
	}
}

func TestEscapeOfTexts(t *testing.T) {
	r := rand.New(rand.NewSource(52))
	for range 30000 {
		checkEscape(t, someText(r))
	}
	checkEscape(t, strings.Repeat("a\né\U0001f600", 3000))
}

func TestEscapeOfAnyBytes(t *testing.T) {
	r := rand.New(rand.NewSource(53))
	for range 30000 {
		b := make([]byte, r.Intn(6))
		for i := range b {
			b[i] = byte(r.Intn(256))
		}
		checkEscapeOfBytes(t, string(b))
		checkEscapeOfBytes(t, "é"+string(b)+"\U0001f600")
	}
}

func checkEscapeOfBytes(t *testing.T, s string) {
	t.Helper()
	for _, ascii := range []bool{false, true} {
		got := printer.Escape(s, ascii)
		if want := quoted(s, ascii); got != want {
			t.Fatalf("Escape(%q, %v) = %s, want %s", s, ascii, got, want)
		}
		if want := printer.Escape(runes.Clean([]byte(s)), ascii); got != want {
			t.Fatalf("Escape(%q, %v) = %s, of its clean text %s", s, ascii, got, want)
		}
	}
}
