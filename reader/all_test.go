package reader_test

import (
	"math"
	"strings"
	"testing"

	"colander/api"
	"colander/reader"
)

// P4.4

func TestAllByHand(t *testing.T) {
	for _, x := range []struct {
		s    string
		want []api.Value
		code api.Errno
		off  int
	}{
		{"", nil, api.OK, 0},
		{" \n", nil, api.OK, 0},
		{"1", []api.Value{num(1)}, api.OK, 0},
		{"null", []api.Value{null}, api.OK, 0},
		{"1 2\n3", []api.Value{num(1), num(2), num(3)}, api.OK, 0},
		{"1 1 1 ", []api.Value{num(1), num(1), num(1)}, api.OK, 0},
		{` {"a":[1,-0.5e1],"a":"\u00e9"} nul`, []api.Value{obj("a", str("\u00e9"))}, api.ErrLiteral, 31},
		{"[1 2]", nil, api.ErrJSON, 3},
		{"[1,", nil, api.ErrEnd, 3},
		{"1,2", []api.Value{num(1)}, api.ErrJSON, 1},
		{"[] ] []", []api.Value{arr()}, api.ErrJSON, 3},
		{"1 [2", []api.Value{num(1)}, api.ErrEnd, 4},
		{"1 \"a\n", []api.Value{num(1)}, api.ErrEnd, 5},
		{"nul 1 2", nil, api.ErrLiteral, 0},
		{"1 nul tru", []api.Value{num(1)}, api.ErrLiteral, 2},
		{"1 \"\\x\" nul", []api.Value{num(1)}, api.ErrEscape, 3},
		{"true\nfalse\n\u00e9", []api.Value{yes, no}, api.ErrJSON, 11},
	} {
		want := api.Fault{}
		if x.code != api.OK {
			want = faultAt(x.code, x.s, x.off)
		}
		if got, f := reader.All(x.s); f != want || !sameRow(got, x.want) {
			t.Errorf("All(%q) = %s, %v, want %s, %v", x.s, shown(got...), f, shown(x.want...), want)
		}
	}
	if _, f := reader.All(` {"a":[1,-0.5e1],"a":"\u00e9"} nul`); f.At != (api.Spot{Line: 1, Col: 32, Off: 31}) {
		t.Errorf("the first example: %v", f)
	}
}

func TestSingleByHand(t *testing.T) {
	for _, x := range []struct {
		s    string
		want api.Value
		code api.Errno
		off  int
	}{
		{"1", num(1), api.OK, 0},
		{" \n[1]\t\r", arr(num(1)), api.OK, 0},
		{"null", null, api.OK, 0},
		{"", null, api.ErrEnd, 0},
		{" ", null, api.ErrEnd, 1},
		{"\n\n", null, api.ErrEnd, 2},
		{mark, null, api.ErrEnd, 3},
		{"1 2", null, api.ErrJSON, 2},
		{"1\n\n 2", null, api.ErrJSON, 4},
		{"1 nul", null, api.ErrJSON, 2},
		{`1 "a`, null, api.ErrJSON, 2},
		{`1 "\x`, null, api.ErrJSON, 2},
		{"1 [", null, api.ErrJSON, 2},
		{"1]", null, api.ErrJSON, 1},
		{"1,2", null, api.ErrJSON, 1},
		{"[]\x00", null, api.ErrJSON, 2},
		{"[]\u00e9", null, api.ErrJSON, 2},
		{`"a""b"`, null, api.ErrJSON, 3},
		{"1 " + mark, null, api.ErrJSON, 2},
		{"nul", null, api.ErrLiteral, 0},
		{"nul 1", null, api.ErrLiteral, 0},
		{"] 1", null, api.ErrJSON, 0},
		{"[1,", null, api.ErrEnd, 3},
		{`["\x"] 1`, null, api.ErrEscape, 2},
		{"1 " + row(api.MaxNodes), null, api.ErrJSON, 2},
		{row(api.MaxNodes) + " 1", null, api.ErrLarge, 0},
	} {
		want := api.Fault{}
		if x.code != api.OK {
			want = faultAt(x.code, x.s, x.off)
		}
		if got, f := reader.Single(x.s); f != want || !same(got, x.want) {
			t.Errorf("Single(%q) = %s, %v, want %s, %v", cut(x.s), shown(got), f, shown(x.want), want)
		}
	}
}

// P4.5

func TestTell(t *testing.T) {
	spot := api.Spot{Line: 2, Col: 1, Off: 7}
	for _, x := range []struct {
		code api.Errno
		want string
	}{
		{api.ErrLiteral, "Invalid literal"},
		{api.ErrJSON, "Invalid JSON text"},
		{api.ErrEscape, "Invalid escape"},
		{api.ErrEnd, "Unfinished JSON term"},
		{api.ErrDepth, "Exceeds depth limit for parsing"},
		{api.ErrLarge, "value is too large"},
		{api.OK, "error 0"},
		{api.ErrNil, "error 1"},
		{api.ErrNumber, "error 20"},
		{39, "error 39"},
		{46, "error 46"},
		{api.ErrStream, "error 60"},
		{api.ErrFlag, "error 250"},
		{-40, "error -40"},
		{math.MaxInt, "error 9223372036854775807"},
		{math.MinInt, "error -9223372036854775808"},
	} {
		if got := reader.Tell(api.Fault{Code: x.code}); got != x.want {
			t.Errorf("Tell of %d: %q, want %q", x.code, got, x.want)
		}
		if got, want := reader.Tell(api.Fault{Code: x.code, At: spot}), x.want+" at line 2, column 1"; got != want {
			t.Errorf("Tell of %d with a spot: %q, want %q", x.code, got, want)
		}
	}
	for _, x := range []struct {
		at   api.Spot
		want string
	}{
		{api.Spot{Line: 1, Col: 1}, " at line 1, column 1"},
		{api.Spot{Line: 12, Col: 345, Off: 6789}, " at line 12, column 345"},
		{api.Spot{Line: 3}, " at line 3, column 0"},
		{api.Spot{Col: 3}, " at line 0, column 3"},
		{api.Spot{Off: 3}, " at line 0, column 0"},
		{api.Spot{Line: math.MaxInt, Col: math.MaxInt, Off: math.MaxInt}, " at line 9223372036854775807, column 9223372036854775807"},
	} {
		if got := reader.Tell(api.Fault{Code: api.ErrEnd, At: x.at}); got != "Unfinished JSON term"+x.want {
			t.Errorf("Tell at %v: %q", x.at, got)
		}
	}
}

func TestTellOfWhatIsRefused(t *testing.T) {
	for s, want := range map[string]string{
		"[1,\n":                                "Unfinished JSON term at line 2, column 1",
		"nul":                                  "Invalid literal at line 1, column 1",
		"[1 2]":                                "Invalid JSON text at line 1, column 4",
		"\n\n\"\\x\"":                          "Invalid escape at line 3, column 2",
		strings.Repeat("[", 10001):             "Exceeds depth limit for parsing at line 1, column 10001",
		"\n " + row(api.MaxNodes):              "value is too large at line 2, column 2",
		strings.Repeat(" ", api.MaxText) + "1": "value is too large",
	} {
		if _, f := reader.Single(s); reader.Tell(f) != want {
			t.Errorf("Tell of the fault of %q: %q, want %q", cut(s), reader.Tell(f), want)
		}
	}
}
