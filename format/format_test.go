package format_test

import (
	"math/rand"
	"slices"
	"strings"
	"testing"
	"unsafe"

	"colander/api"
	"colander/format"
	"colander/sample"
	"colander/value"
)

// P13.1

func TestNames(t *testing.T) {
	first := format.Names()
	if !slices.Equal(first, names) {
		t.Fatal("Names", first)
	}
	first[0] = "x"
	if !slices.Equal(format.Names(), names) {
		t.Error("Names answers memory that is not the caller's own")
	}
}

func TestString(t *testing.T) {
	for text, want := range map[string]string{
		`null`: "null", `false`: "false", `true`: "true", `-0`: "-0", `1.50`: "1.5", `nan`: "null", `1e1000`: "1.7976931348623157e+308",
		`""`: "", `"a\"b\n"`: "a\"b\n", `"null"`: "null", `"é\u0000"`: "é\x00",
		`[]`: "[]", `["a\"b\n", 1]`: `["a\"b\n",1]`, `{"b":[null], "a":"é"}`: `{"b":[null],"a":"é"}`,
	} {
		if got := format.String(one(text)); got != want {
			t.Errorf("String(%s) = %q, want %q", text, got, want)
		}
	}
	v := str("text")
	if unsafe.StringData(format.String(v)) == unsafe.StringData(v.Str) {
		t.Error("String shares memory")
	}
	long := str(strings.Repeat("a", api.MaxBytes+1))
	if format.String(long) != long.Str {
		t.Error("String has no limit")
	}
}

// P13.2

// TestNoFormat: a name that is none is told of whatever the value is.
func TestNoFormat(t *testing.T) {
	for _, name := range []string{"", "x", "@csv", "CSV", "csv ", " csv", "base6", "base64e", "base64dd", "jso", "texts", "string", "urid", "html5", "sh\x00", "é", "\"", "\n", "format/1"} {
		for _, v := range []api.Value{num(1), str("a"), one(`[1,[2]]`), one(`{"a":1}`), str(strings.Repeat("a", api.MaxBytes+1))} {
			check(t, name, v, "", name+" is not a valid format")
		}
	}
	// What a text of an error is, is valid: of a name that is not, bad bytes are replaced.
	check(t, "\xff", num(1), "", "\ufffd is not a valid format")
	check(t, "a\xe2\x82b", num(1), "", "a\ufffd\ufffdb is not a valid format")
}

func TestTextAndJSON(t *testing.T) {
	for text, want := range map[string]string{`"a\"b\n"`: "a\"b\n", `"1"`: "1", `1`: "1", `[1, "a"]`: `[1,"a"]`, `{"a": null}`: `{"a":null}`, `nan`: "null", `""`: ""} {
		check(t, "text", one(text), want, "")
	}
	for text, want := range map[string]string{`"a\"b\n"`: `"a\"b\n"`, `"1"`: `"1"`, `1`: "1", `[1, "a\"b", null, true]`: `[1,"a\"b",null,true]`, `{"b": 1, "a": null}`: `{"b":1,"a":null}`, `nan`: "null", `""`: `""`} {
		check(t, "json", one(text), want, "")
	}
}

// TestAsModel holds all formats against the model.
func TestAsModel(t *testing.T) {
	for _, name := range append(slices.Clone(names), "", "x", "\xff") {
		for _, v := range samples() {
			checkAsModel(t, name, v)
		}
	}
	r := rand.New(rand.NewSource(131))
	for range 20000 {
		v := somewhat(r)
		for _, name := range names {
			checkAsModel(t, name, v)
		}
	}
}

// TestEachPoint: a format that changes strings does so with each code point as the chapter says, whatever stands beside it.
func TestEachPoint(t *testing.T) {
	for p := range rune(0x110000) {
		if p >= 0xd800 && p <= 0xdfff || p > 0x1000 && p%97 > 0 {
			continue
		}
		v := str("a" + string(p) + "0")
		for _, name := range names {
			w := v
			if name == "csv" || name == "tsv" {
				w = arr(v)
			}
			if want, complaint := model(name, w); complaint != "" {
				check(t, name, w, "", complaint)
			} else if got := formatted(t, name, w); got != want {
				t.Fatalf("Format(%q, %s) = %q, want %q", name, value.Text(w), got, want)
			}
		}
	}
}

// TestTooLarge: what a format makes may have MaxBytes bytes, and no more.
func TestTooLarge(t *testing.T) {
	const most = api.MaxBytes
	times := func(s string, n int) api.Value { return str(strings.Repeat(s, n)) }
	for _, x := range []struct {
		name    string
		v, more api.Value
		want    string
	}{
		{"text", times("a", most), times("a", most+1), strings.Repeat("a", most)},
		{"json", times("a", most-2), times("a", most-1), `"` + strings.Repeat("a", most-2) + `"`},
		{"json", times("\n", most/2-1), times("\n", most/2), `"` + strings.Repeat(`\n`, most/2-1) + `"`},
		{"html", times("<", most/4), times("<", most/4+1), strings.Repeat("&lt;", most/4)},
		{"html", times(`"`, most/6), times(`"`, most/6+1), strings.Repeat("&quot;", most/6)},
		{"uri", times("é", most/6), times("é", most/6+1), strings.Repeat("%C3%A9", most/6)},
		{"csv", arr(times(`"`, most/2-1)), arr(times(`"`, most/2)), `"` + strings.Repeat(`""`, most/2-1) + `"`},
		{"csv", arr(null, times("a", most-3)), arr(null, null, times("a", most-3)), `,"` + strings.Repeat("a", most-3) + `"`},
		{"tsv", arr(times("\t", most/2)), arr(times("\t", most/2), null), strings.Repeat(`\t`, most/2)},
		{"sh", times("'", most/4-1), times("'", most/4), "'" + strings.Repeat(`'\''`, most/4-1) + "'"},
		{"base64", times("\x00", most/4*3), times("\x00", most/4*3+1), strings.Repeat("A", most)},
		// What is undone may be longer than that, and bad bytes grow.
		{"base64d", times("AAAA", most/3), times("AAAA", most/3+1), strings.Repeat("\x00", most/3*3)},
		{"base64d", str(strings.Repeat("AAAA", most/3) + "AA="), str(strings.Repeat("AAAA", most/3) + "AAA="), strings.Repeat("\x00", most)},
		{"base64d", times("////", most/9), times("////", most/9+1), strings.Repeat("\ufffd", most/9*3)},
	} {
		if got, err := format.Format(x.name, x.v); err.Is || !sample.Same(got, str(x.want)) {
			t.Errorf("%s of what is not too large: %s", x.name, sample.Shown(got, err.V))
		}
		check(t, x.name, x.more, "", tooLarge)
	}
}

// TestTooLargeValues: what counts is the string alone, not of what value it is made; and where there is none, why.
func TestTooLargeValues(t *testing.T) {
	many := sample.Many(num(7), api.MaxNodes+1) // a value that is too large
	if got := formatted(t, "csv", many); got != strings.Repeat(",7", len(many.List))[1:] {
		t.Error("csv of many numbers", sample.Shown(str(got)))
	}
	for _, name := range []string{"tsv", "sh", "json", "text", "html", "base64"} {
		want, _ := model(name, many)
		if got := formatted(t, name, many); got != want {
			t.Error(name, "of many numbers", sample.Shown(str(got)))
		}
	}
	deep := sample.Nested(null, api.MaxDepth-1)
	check(t, "json", deep, strings.Repeat("[", api.MaxDepth-1)+"null"+strings.Repeat("]", api.MaxDepth-1), "")
	long := str(strings.Repeat("a", api.MaxBytes+4))
	check(t, "csv", arr(long, one("[1]")), "", "array ([1]) is not valid in a csv row")
	check(t, "tsv", arr(long, one("{}")), "", "object ({}) is not valid in a tsv row")
	check(t, "csv", long, "", `string ("aaaaaaaaaaaaaaaaaaaa...) cannot be csv-formatted, only an array can be`)
	check(t, "sh", arr(long, one("[]")), "", "array ([]) can not be escaped for shell")
	check(t, "base64d", str(long.Str+"!"), "", `string ("aaaaaaaaaaaaaaaaaaaa...) is not valid base64 data`)
	check(t, "sh", long, "", tooLarge)
}
