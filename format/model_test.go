package format_test

import (
	"encoding/base64"
	"math"
	"math/rand"
	"net/url"
	"regexp"
	"slices"
	"strings"
	"testing"
	"unsafe"

	"colander/api"
	"colander/format"
	"colander/sample"
	"colander/value"
)

var num, str, arr, obj, one, all = sample.Num, sample.Str, sample.Arr, sample.Obj, sample.One, sample.All

var null, no, yes = api.Value{}, sample.Bool(false), sample.Bool(true)

const tooLarge = "value is too large"

// names are the formats' names, as the chapter has them.
var names = strings.Fields("base64 base64d csv html json sh text tsv uri")

// check holds Format against a string or, where complaint is not empty, the error that has this text. The name may be no text at all, so it is handed in beside the value.
func check(t *testing.T, name string, v api.Value, want, complaint string) {
	t.Helper()
	text := func(text string) any { return unsafe.StringData(text) }
	answer := func(args []api.Value) (api.Value, api.Err) { return format.Format(args[0].Str, args[1]) }
	if wrong := sample.Amiss(answer, []api.Value{str(name), v}, str(want), complaint, text); wrong != "" {
		t.Errorf("Format(%q, %s): %s", name, sample.Shown(v), wrong)
	}
}

// formatted answers the string that a format makes of a value.
func formatted(t *testing.T, name string, v api.Value) string {
	t.Helper()
	got, err := format.Format(name, v)
	if err.Is || got.Kind != api.String || !value.Right(got) {
		t.Fatalf("Format(%q, %s) answers %s and %s", name, sample.Shown(v), sample.Shown(got), sample.Shown(err.V))
	}
	return got.Str
}

// failing answers the error that a format answers of a value.
func failing(t *testing.T, name string, v api.Value) string {
	t.Helper()
	got, err := format.Format(name, v)
	if !err.Is || err.V.Kind != api.String || !value.Right(err.V) || !sample.Same(got, null) {
		t.Fatalf("Format(%q, %s) answers %s and %s", name, sample.Shown(v), sample.Shown(got), sample.Shown(err.V))
	}
	return err.V.Str
}

// samples are values of all kinds, the edges among them.
func samples() []api.Value {
	return append(all(`null false true 0 -0 1 -1.5 0.1 1e300 5e-324 1e16 12 123 1234 12345 nan 1e1000 -1e1000 "" "a" "ab" "abc" "abcd" "null" "1" "=" "==" "===" "a=" "YQ==" "YQ=" "YQ" "YQ===" "YWI=" "YWJj" "Y=Q=" "=YQ" "YQ==\n" "aGk=" "gID/" "//8="
		"it's" "\"" "\"\"" "'" "''" "\\" "\\t" "\t" "\n" "\r\n" " " "," "a,b" "<a href='x?y&z'>\"</a>" "&amp;" "%" "%20" "+" "é" "é/ " "€" "\ud83d\ude00" "\u0000" "\u007f" "-_.~" "-._~!*()'"
		[] [null] [null,null] [""] ["",""] [1,"a\"b",null,true] [false,-1.5,"a\tb\\\n\r"] ["it's","a b","$x","!"] [nan] [1e1000] ["é","\ud83d\ude00"] [[]] [{}] [[1],{}] [{},[1]] [1,[2],{}] ["a",{"b":1},[]] [["abcdefghijklmnopqrstuvwxyz"]]
		{} {"a":1} {"a":"<'\">&"} {"é":[1,"\n"]} {"abcdefghijklmnopqrst":[]} "abcdefghijklmnopqrstuvwxyz!" "abcdefghijklmnopqrstuvwxyz"`),
		arr(num(math.Copysign(0, -1))), sample.Nested(yes, 30), sample.Counted(100))
}

// pieces are of what strings are made: all that a format treats in a way of its own is among them.
var pieces = strings.Split(`" ' \ < > & = , % + / - _ . ~ $ ! ; # * a z A Z 0 9 Q amp; é € 😀`, " ")

// someText answers any text of those.
func someText(r *rand.Rand) string {
	var out strings.Builder
	for range r.Intn(9) {
		switch r.Intn(8) {
		case 0:
			out.WriteString([]string{"\t", "\n", "\r", " ", "\x00", "\x7f", "\x1b"}[r.Intn(7)])
		case 1:
			out.WriteRune(rune(r.Intn(0xd800)))
		default:
			out.WriteString(pieces[r.Intn(len(pieces))])
		}
	}
	return out.String()
}

// someCell answers any value that has no others in it.
func someCell(r *rand.Rand) api.Value {
	switch r.Intn(8) {
	case 0:
		return []api.Value{null, no, yes, num(math.NaN()), num(math.Inf(-1))}[r.Intn(5)]
	case 1:
		return num(float64(r.Intn(2000)-1000) / 8)
	}
	return str(someText(r))
}

// someRow answers any array of those.
func someRow(r *rand.Rand) api.Value {
	out := arr()
	for range r.Intn(6) {
		out.List = append(out.List, someCell(r))
	}
	return out
}

// somewhat answers any value: a row, a cell, or an array in which an array or an object may be.
func somewhat(r *rand.Rand) api.Value {
	switch r.Intn(5) {
	case 0:
		return someCell(r)
	case 1:
		return obj(pieces[r.Intn(len(pieces))], someRow(r))
	case 2:
		out := someRow(r)
		out.List = slices.Insert(out.List, r.Intn(len(out.List)+1), []api.Value{someRow(r), obj("k", someCell(r)), obj("")}[r.Intn(3)])
		return out
	}
	return someRow(r)
}

// The model: the chapter's words, said by Go's own library.

func textOf(v api.Value) string {
	if v.Kind == api.String {
		return v.Str
	}
	return value.Text(v)
}

func told(v api.Value) string {
	return value.Name(v) + " (" + value.Short(v) + ")"
}

// model answers what a format makes of a value, and why it makes nothing, or "".
func model(name string, v api.Value) (string, string) {
	out, complaint := unlimited(name, v)
	if complaint != "" {
		return "", complaint
	}
	if len(out) > api.MaxBytes {
		return "", tooLarge
	}
	return out, ""
}

func unlimited(name string, v api.Value) (string, string) {
	swapped := func(s string, pairs ...string) string { return strings.NewReplacer(pairs...).Replace(s) }
	switch name {
	case "text":
		return textOf(v), ""
	case "json":
		return value.Text(v), ""
	case "html":
		return swapped(textOf(v), "<", "&lt;", ">", "&gt;", "&", "&amp;", "'", "&#39;", `"`, "&quot;"), ""
	case "uri":
		return strings.ReplaceAll(url.QueryEscape(textOf(v)), "+", "%20"), ""
	case "csv":
		return table(name, v, ",", func(s string) string { return `"` + swapped(s, `"`, `""`) + `"` })
	case "tsv":
		return table(name, v, "\t", func(s string) string { return swapped(s, `\`, `\\`, "\t", `\t`, "\n", `\n`, "\r", `\r`) })
	case "sh":
		return shell(v)
	case "base64":
		return base64.StdEncoding.EncodeToString([]byte(textOf(v))), ""
	case "base64d":
		return undone(v)
	}
	return "", string([]rune(name)) + " is not a valid format"
}

func isNested(v api.Value) bool { return v.Kind > api.String }

func table(name string, v api.Value, between string, quote func(s string) string) (string, string) {
	if v.Kind != api.Array {
		return "", told(v) + " cannot be " + name + "-formatted, only an array can be"
	}
	out := ""
	for i, x := range v.List {
		if i > 0 {
			out += between
		}
		switch x.Kind {
		case api.Array, api.Object:
			return "", told(x) + " is not valid in a " + name + " row"
		case api.String:
			out += quote(x.Str)
		case api.Number, api.True, api.False:
			out += value.Text(x)
		}
	}
	return out, ""
}

func shell(v api.Value) (string, string) {
	if v.Kind != api.Array {
		v = arr(v)
	}
	if i := slices.IndexFunc(v.List, isNested); i >= 0 {
		return "", told(v.List[i]) + " can not be escaped for shell"
	}
	var out []string
	for _, x := range v.List {
		if x.Kind == api.String {
			out = append(out, "'"+strings.Join(strings.Split(x.Str, "'"), `'\''`)+"'")
		} else {
			out = append(out, value.Text(x))
		}
	}
	return strings.Join(out, " "), ""
}

var sixtyFour = regexp.MustCompile(`\A([A-Za-z0-9+/]*)={0,2}\z`)

func undone(v api.Value) (string, string) {
	found := sixtyFour.FindStringSubmatch(textOf(v))
	if found == nil || len(found[1])%4 == 1 {
		return "", told(v) + " is not valid base64 data"
	}
	b, err := base64.RawStdEncoding.DecodeString(found[1])
	if err != nil {
		panic(err)
	}
	return string([]rune(string(b))), "" // each bad byte is a code point of its own
}

// checkAsModel holds a format of a value against the model.
func checkAsModel(t *testing.T, name string, v api.Value) {
	t.Helper()
	want, complaint := model(name, v)
	check(t, name, v, want, complaint)
}
