package sample_test

import (
	"math"
	"slices"
	"testing"
	"unsafe"

	"colander/api"
	"colander/sample"
	"colander/value"
)

func TestMaking(t *testing.T) {
	for want, v := range map[string]api.Value{
		`-1.5`:             sample.Num(-1.5),
		`"é"`:              sample.Str("é"),
		`[1,"a"]`:          sample.Arr(sample.Num(1), sample.Str("a")),
		`{"a":1,"":2}`:     sample.Obj("a _", sample.Num(1), sample.Num(2)),
		`true`:             sample.Bool(true),
		`false`:            sample.Bool(false),
		`{"b":[1],"a":{}}`: sample.One(`{"b":[1],"a":{}} 2`),
		`[[],[]]`:          sample.Many(sample.Arr(), 2),
		`[0,1,2]`:          sample.Counted(3),
		`[[[7]]]`:          sample.Nested(sample.Num(7), 3),
	} {
		if value.Text(v) != want || !value.Right(v) {
			t.Errorf("%s, want %s", value.Text(v), want)
		}
	}
	if l := sample.All(`nan 1e1000 -0`); len(l) != 3 || l[0].Num == l[0].Num || !math.IsInf(l[1].Num, 1) || !math.Signbit(l[2].Num) {
		t.Error("All:", value.Text(sample.Arr(l...)))
	}
	defer func() {
		if recover() == nil {
			t.Error("All takes what is no value")
		}
	}()
	sample.All(`[`)
}

func TestSame(t *testing.T) {
	all := sample.All(`null false true 0 -0 1 nan 1e1000 "" "a" [] [0] [-0] [nan] [1,2] [2,1] {} {"a":0} {"a":-0} {"b":0} {"a":0,"b":0} {"b":0,"a":0}`)
	for i, a := range all {
		for j, b := range all {
			if sample.Same(a, b) != (i == j) || sample.SameRow([]api.Value{a}, []api.Value{b}) != (i == j) {
				t.Error(value.Text(a), value.Text(b))
			}
		}
	}
	if !sample.Same(sample.Arr(), api.Value{Kind: api.Array, List: []api.Value{}}) || sample.SameRow(all, all[1:]) {
		t.Error("Same of lists")
	}
}

func TestWrong(t *testing.T) {
	one, fault := sample.Num(1), api.Err{Is: true, V: sample.Str("bad")}
	for _, x := range []struct {
		got       api.Value
		err       api.Err
		complaint string
		well      bool
	}{
		{one, api.Err{}, "", true},
		{sample.Num(2), api.Err{}, "", false},
		{one, fault, "", false},
		{one, api.Err{V: one}, "", false},
		{api.Value{}, fault, "bad", true},
		{api.Value{}, fault, "worse", false},
		{one, fault, "bad", false},
		{one, api.Err{}, "bad", false},
	} {
		if wrong := sample.Wrong(x.got, x.err, one, x.complaint); (wrong == "") != x.well {
			t.Errorf("Wrong(%s, %v, %q): %s", value.Text(x.got), x.err.Is, x.complaint, wrong)
		}
	}
}

func TestAmiss(t *testing.T) {
	text := func(s string) any { return unsafe.StringData(s) }
	args := sample.All(`{"a":["b"]} "c"`)
	one, fault := sample.Num(1), api.Err{Is: true, V: sample.Str("bad")}
	for name, call := range map[string]func(args []api.Value) (api.Value, api.Err){
		"another value":       func([]api.Value) (api.Value, api.Err) { return sample.Num(2), api.Err{} },
		"an error":            func([]api.Value) (api.Value, api.Err) { return api.Value{}, fault },
		"a changed text":      func(l []api.Value) (api.Value, api.Err) { l[1] = sample.Str("d"); return one, api.Err{} },
		"a changed list":      func(l []api.Value) (api.Value, api.Err) { l[0].List[0].List[0] = one; return one, api.Err{} },
		"room that is filled": func(l []api.Value) (api.Value, api.Err) { _ = append(l[0].List, one); return one, api.Err{} },
	} {
		if sample.Amiss(call, args, one, "", text) == "" {
			t.Error("Amiss does not tell of", name)
		}
	}
	same := func(l []api.Value) (api.Value, api.Err) { return l[0], api.Err{} }
	if sample.Amiss(same, args, args[0], "", text) == "" || sample.Amiss(func(l []api.Value) (api.Value, api.Err) { return api.Value{}, api.Err{Is: true, V: l[1]} }, args, api.Value{}, "c", text) == "" {
		t.Error("Amiss does not tell of memory that is shared")
	}
	own := func(l []api.Value) (api.Value, api.Err) { return sample.Apart(l[0]), api.Err{} }
	if wrong := sample.Amiss(own, args, args[0], "", text); wrong != "" {
		t.Error("Amiss of what is well:", wrong)
	}
	if wrong := sample.Amiss(func([]api.Value) (api.Value, api.Err) { return api.Value{}, fault }, args, one, "bad", text); wrong != "" {
		t.Error("Amiss of an error that is well:", wrong)
	}
}

func TestMemory(t *testing.T) {
	text := func(s string) any { return unsafe.StringData(s) }
	v := sample.One(`{"key":["text",[1],[2]]}`)
	own := sample.Apart(v)
	if !sample.Same(own, v) || sample.Shared([]api.Value{own}, []api.Value{v}, text) != "" || !sample.Untouched(own) {
		t.Error("Apart")
	}
	inner := v.List[0].List
	for name, answer := range map[string][]api.Value{
		"a list":           {v.List[0]},
		"a text":           {inner[0]},
		"a key":            {sample.Str(v.Keys[0])},
		"a list's end":     {sample.Arr(inner[2:]...)},
		"room behind":      {sample.Arr(inner[:0]...)},
		"a list twice":     {own, own},
		"a list within it": {own.List[0], sample.Arr(own.List[0].List[1:]...)},
	} {
		if sample.Shared(answer, []api.Value{v}, text) == "" {
			t.Error("Shared does not tell of", name)
		}
	}
	again := sample.Str(own.List[0].List[0].Str)
	if sample.Shared([]api.Value{again, again}, []api.Value{v}, text) != "" {
		t.Error("Shared takes two texts amiss that stand in one place")
	}
	list := own.List[0].List[1].List
	_ = append(list, sample.Num(3))
	if sample.Untouched(own) {
		t.Error("Untouched does not see what is put behind a list")
	}
	own = sample.Apart(v)
	_ = append(own.Keys, "k")
	if sample.Untouched(own) {
		t.Error("Untouched does not see what is put behind keys")
	}
}

func TestPatterns(t *testing.T) {
	chars := func(l ...int) []api.Pat {
		var out []api.Pat
		for _, n := range l {
			out = append(out, api.Pat{Kind: api.XChar, N: n})
		}
		return out
	}
	all := []api.Pat{
		{}, {Kind: api.XEmpty}, {Kind: api.XChar, N: 1}, {Kind: api.XChar, N: 2}, {Kind: api.XGroup, N: 1, Sub: chars(1)}, {Kind: api.XGroup, N: 1, Text: "x", Sub: chars(1)},
		{Kind: api.XLook, Sub: chars(1)}, {Kind: api.XLook, Not: true, Sub: chars(1)}, {Kind: api.XLook, Back: true, Sub: chars(1)}, {Kind: api.XSeq, Sub: chars(1, 2)}, {Kind: api.XSeq, Sub: chars(2, 1)}, {Kind: api.XSeq, Sub: chars(1, 2, 1)},
		{Kind: api.XRepeat, Max: 2, Sub: chars(1)}, {Kind: api.XRepeat, Min: 1, Max: 2, Sub: chars(1)}, {Kind: api.XRepeat, Max: 1, Sub: chars(1)}, {Kind: api.XRepeat, Max: 2, Mode: 1, Sub: chars(1)},
		{Kind: api.XSet, Ranges: []api.Range{{From: 1, To: 2}}}, {Kind: api.XSet, Ranges: []api.Range{{From: 1, To: 3}}}, {Kind: api.XSet, Ranges: []api.Range{{From: 1, To: 2}, {From: 4, To: 5}}},
	}
	for i, p := range all {
		for j, q := range all {
			if sample.SamePat(p, sample.ApartPat(q)) != (i == j) {
				t.Error(p, q)
			}
		}
	}
	if !sample.SamePat(api.Pat{Ranges: []api.Range{}}, api.Pat{Sub: []api.Pat{}}) {
		t.Error("nil and empty lists are not the same")
	}
	p := api.Pat{Kind: api.XSeq, Sub: []api.Pat{{Kind: api.XBack, Text: "name"}, {Kind: api.XSet, Ranges: []api.Range{{From: 1, To: 2}}}}}
	own := sample.ApartPat(p)
	if &own.Sub[0] == &p.Sub[0] || &own.Sub[1].Ranges[0] == &p.Sub[1].Ranges[0] || unsafe.StringData(own.Sub[0].Text) == unsafe.StringData(p.Sub[0].Text) {
		t.Error("ApartPat shares memory")
	}
}

func TestTexts(t *testing.T) {
	var got []string
	sample.EachText([]string{"a", "bc"}, 2, func(s string) { got = append(got, s) })
	if want := []string{"", "a", "bc", "aa", "abc", "bca", "bcbc"}; !slices.Equal(got, want) {
		t.Errorf("EachText gives %q, want %q", got, want)
	}
	for off, want := range []api.Spot{{Line: 1, Col: 1}, {Line: 1, Col: 2, Off: 1}, {Line: 2, Col: 1, Off: 2}, {Line: 2, Col: 2, Off: 3}, {Line: 2, Col: 2, Off: 3}} {
		if got := sample.SpotOf("a\nb", off); got != want {
			t.Errorf("SpotOf byte %d is %v, want %v", off, got, want)
		}
	}
}
