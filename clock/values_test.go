package clock_test

import (
	"math"
	"strings"
	"testing"
	"unsafe"

	"colander/api"
	"colander/clock"
	"colander/sample"
)

// P12.3

var num, str, arr, one = sample.Num, sample.Str, sample.Arr, sample.One

// check tells what is wrong with what a call answers, and whether it shares memory with what was handed in, or has changed that.
func check(t *testing.T, call string, answer func(args []api.Value) (api.Value, api.Err), args []api.Value, want api.Value, complaint string) {
	t.Helper()
	text := func(text string) any { return unsafe.StringData(text) }
	if wrong := sample.Amiss(answer, args, want, complaint, text); wrong != "" {
		t.Errorf("%s of %s: %s", call, sample.Shown(args...), wrong)
	}
}

func checkGmtime(t *testing.T, v, want api.Value, complaint string) {
	t.Helper()
	check(t, "Gmtime", func(args []api.Value) (api.Value, api.Err) { return clock.Gmtime(args[0]) }, []api.Value{v}, want, complaint)
}

func checkMktime(t *testing.T, v, want api.Value, complaint string) {
	t.Helper()
	check(t, "Mktime", func(args []api.Value) (api.Value, api.Err) { return clock.Mktime(args[0]) }, []api.Value{v}, want, complaint)
}

func checkStrftime(t *testing.T, v, format, want api.Value, complaint string) {
	t.Helper()
	check(t, "Strftime", func(args []api.Value) (api.Value, api.Err) { return clock.Strftime(args[0], args[1]) }, []api.Value{v, format}, want, complaint)
}

func checkStrptime(t *testing.T, v, format, want api.Value, complaint string) {
	t.Helper()
	check(t, "Strptime", func(args []api.Value) (api.Value, api.Err) { return clock.Strptime(args[0], args[1]) }, []api.Value{v, format}, want, complaint)
}

var none api.Value

// others answers values of all kinds but one.
func others(kind api.Kind) []api.Value {
	var out []api.Value
	for _, v := range sample.All(`null false true 5 "x" "" "5" [] [1,2,3,4,5,6] {} {"a":1}`) {
		if v.Kind != kind {
			out = append(out, v)
		}
	}
	return out
}

func TestGmtime(t *testing.T) {
	checkGmtime(t, num(1425599507), one("[2015,2,5,23,51,47,4,63]"), "")
	checkGmtime(t, num(0), one("[1970,0,1,0,0,0,4,0]"), "")
	checkGmtime(t, num(-1), one("[1969,11,31,23,59,59,3,364]"), "")
	checkGmtime(t, num(0.5), one("[1970,0,1,0,0,0.5,4,0]"), "")
	checkGmtime(t, num(-0.25), one("[1969,11,31,23,59,59.75,3,364]"), "")
	checkGmtime(t, num(math.Copysign(0, -1)), one("[1970,0,1,0,0,0,4,0]"), "")
	march := 1425599621.678
	checkGmtime(t, num(march), arr(num(2015), num(2), num(5), num(23), num(53), num(41+(march-1425599621)), num(4), num(63)), "")
	checkGmtime(t, num(-377705116800), one("[-9999,0,1,0,0,0,1,0]"), "")
	checkGmtime(t, num(253402300799.5), one("[9999,11,31,23,59,59.5,5,364]"), "")
}

func TestGmtimeRefuses(t *testing.T) {
	for _, v := range others(api.Number) {
		checkGmtime(t, v, none, "gmtime() requires a number")
	}
	for _, sec := range []float64{253402300800, -377705116800.5, -377705116801, 1e300, -1e300, math.NaN(), math.Inf(1), math.Inf(-1)} {
		checkGmtime(t, num(sec), none, "error converting number of seconds since epoch to datetime")
	}
}

func TestMktime(t *testing.T) {
	checkMktime(t, one("[2015,2,5,23,51,47,4,63]"), num(1425599507), "")
	checkMktime(t, one("[2015,2,5,23,51,47]"), num(1425599507), "")
	checkMktime(t, one("[1970,0,1,0,0,0]"), num(0), "")
	checkMktime(t, one("[1969,11,31,23,59,59]"), num(-1), "")
	checkMktime(t, one(`[2015,2,5,23,51,47,"x",null,{}]`), num(1425599507), "")
	// The first five have no fractions, the sixth is taken downwards.
	checkMktime(t, one("[2015.9,2.9,5.9,23.9,51.9,47.9]"), num(1425599507), "")
	checkMktime(t, one("[1970,-0.9,1,-0.9,-0.9,-0.1]"), num(-1), "")
	checkMktime(t, one("[nan,0,1,0,0,0]"), num(-62167219200), "")
	checkMktime(t, one("[1970,nan,1,nan,nan,5]"), num(5), "")
	// They need not be in their ranges.
	checkMktime(t, one("[2015,14,0,25,0,0]"), num(1456794000), "")
	checkMktime(t, one("[1970,0,1,0,0,86400]"), num(86400), "")
	checkMktime(t, one("[1970,0,1,-24,0,0]"), num(-86400), "")
	checkMktime(t, one("[-9999,0,1,0,0,0]"), num(-377705116800), "")
	checkMktime(t, one("[9999,11,31,23,59,59.9]"), num(253402300799), "")
}

func TestMktimeRefuses(t *testing.T) {
	for _, v := range others(api.Array) {
		checkMktime(t, v, none, "mktime requires array of 6 numbers")
	}
	for _, text := range []string{"[]", "[1]", "[2015,2,5,23,51]", `["a","b","c","d","e"]`} {
		checkMktime(t, one(text), none, "mktime requires array of 6 numbers")
	}
	for n := range 6 {
		for _, field := range others(api.Number) {
			v := one("[2015,2,5,23,51,47,4,63]")
			v.List[n] = field
			checkMktime(t, v, none, "mktime requires parsed datetime inputs")
		}
	}
	checkMktime(t, one(`[99999,99999,"x",23,51,47]`), none, "mktime requires parsed datetime inputs")
	for _, text := range timesRefused {
		checkMktime(t, one(text), none, "invalid gmtime representation")
	}
}

// timesRefused are arrays of six numbers that are no times.
var timesRefused = []string{
	"[10000,0,1,0,0,0]", "[-10000,0,1,0,0,0]", "[9999,11,31,23,59,60]", "[-9999,0,1,0,0,-0.5]", "[9999,12,1,0,0,-1]", "[1e1000,0,1,0,0,0]", "[-1e1000,0,1,0,0,0]",
	"[1970,1e300,1,0,0,0]", "[1970,0,1e300,0,0,0]", "[1970,0,1,1e300,0,0]", "[1970,0,1,0,-1e300,0]", "[1970,0,1,0,0,1e300]",
	"[1970,0,1,0,0,nan]", "[1970,0,1,0,0,1e1000]", "[1970,0,1,0,0,-1e1000]",
}

func TestStrftime(t *testing.T) {
	checkStrftime(t, one("[2015,2,5,23,51,47,4,63]"), str("%A, %B %d, %Y"), str("Thursday, March 05, 2015"), "")
	checkStrftime(t, num(1425599507), str("%Y-%m-%dT%H:%M:%SZ"), str("2015-03-05T23:51:47Z"), "")
	checkStrftime(t, num(1425599507.999), str("%S %s"), str("47 1425599507"), "")
	checkStrftime(t, num(-0.5), str("%c"), str("Wed Dec 31 23:59:59 1969"), "")
	checkStrftime(t, num(0), str(""), str(""), "")
	checkStrftime(t, num(0), str("é %q %"), str("é %q %"), "")
	checkStrftime(t, num(0), str("no directive"), str("no directive"), "")
	// Fields behind the sixth say nothing, and those ahead need not be in their ranges.
	checkStrftime(t, one("[2015,2,5,23,51,47]"), str("%a %j"), str("Thu 064"), "")
	checkStrftime(t, one(`[2015,2,5,23,51,47,0,"x",null]`), str("%a %j"), str("Thu 064"), "")
	checkStrftime(t, one("[2015,14,0,25,0,0]"), str("%c"), str("Tue Mar  1 01:00:00 2016"), "")
	checkStrftime(t, one("[2015.5,2.5,5.5,23.5,51.5,47.5]"), str("%c"), str("Thu Mar  5 23:51:47 2015"), "")
	checkStrftime(t, one("[1970,0,1,0,0,-0.5]"), str("%c"), str("Wed Dec 31 23:59:59 1969"), "")
	checkStrftime(t, one("[nan,0,1,0,0,0]"), str("%Y"), str("0"), "")
	checkStrftime(t, num(-377705116800), str("%Y"), str("-9999"), "")
	// Split of a moment just ahead of a whole second may have 60 seconds, which are the next minute.
	checkStrftime(t, num(-1e-20), str("%F %T"), str("1970-01-01 00:00:00"), "")
}

func TestStrftimeRefuses(t *testing.T) {
	const inputs, format, invalid = "strftime/1 requires parsed datetime inputs", "strftime/1 requires a string format", "invalid gmtime representation"
	for _, sec := range []float64{253402300800, -377705116801, math.NaN(), math.Inf(1)} {
		for _, v := range append(others(api.String), str("%Y")) {
			checkStrftime(t, num(sec), v, none, "error converting number of seconds since epoch to datetime")
		}
	}
	for _, v := range append(others(api.Array), one("[]"), one("[2015,2,5,23,51]")) {
		if v.Kind != api.Number {
			checkStrftime(t, v, str("%Y"), none, inputs)
			checkStrftime(t, v, num(5), none, inputs)
		}
	}
	for n := range 6 {
		for _, field := range others(api.Number) {
			v := one("[2015,2,5,23,51,47,4,63]")
			v.List[n] = field
			checkStrftime(t, v, str("%Y"), none, inputs)
			checkStrftime(t, v, api.Value{}, none, inputs)
		}
	}
	for _, v := range others(api.String) {
		checkStrftime(t, num(5), v, none, format)
		checkStrftime(t, one("[2015,2,5,23,51,47]"), v, none, format)
		for _, text := range timesRefused {
			checkStrftime(t, one(text), v, none, format)
		}
	}
	for _, text := range timesRefused {
		checkStrftime(t, one(text), str("%Y"), none, invalid)
	}
}

// TestStrftimeTooLarge: what is written is a value, and so has at most so many bytes.
func TestStrftimeTooLarge(t *testing.T) {
	const half = api.MaxBytes / 2
	checkStrftime(t, num(0), str(strings.Repeat("%m", half)), str(strings.Repeat("01", half)), "")
	checkStrftime(t, num(0), str(strings.Repeat("%m", half)+"x"), none, "value is too large")
	checkStrftime(t, num(0), str(strings.Repeat("%c", half)), none, "value is too large")
	checkStrftime(t, num(0), str(strings.Repeat("%%", api.MaxBytes)), str(strings.Repeat("%", api.MaxBytes)), "")
	checkStrftime(t, num(0), str(strings.Repeat("%%", api.MaxBytes+1)), none, "value is too large")
	checkStrftime(t, num(1e300), str(strings.Repeat("%c", half)), none, "error converting number of seconds since epoch to datetime")
	checkStrftime(t, one(timesRefused[0]), str(strings.Repeat("%c", half)), none, "invalid gmtime representation")
}

func TestStrptime(t *testing.T) {
	checkStrptime(t, str("2015-03-05T23:51:47Z"), str("%Y-%m-%dT%H:%M:%SZ"), one("[2015,2,5,23,51,47,4,63]"), "")
	checkStrptime(t, str("-1"), str("%s"), one("[1969,11,31,23,59,59,3,364]"), "")
	checkStrptime(t, str(""), str(""), one("[1900,0,1,0,0,0,1,0]"), "")
	checkStrptime(t, str("é 5"), str("é %H"), one("[1900,0,1,5,0,0,1,0]"), "")
}

func TestStrptimeRefuses(t *testing.T) {
	const arguments = "strptime/1 requires string inputs and arguments"
	for _, v := range others(api.String) {
		checkStrptime(t, v, str("%Y"), none, arguments)
		checkStrptime(t, str("2015"), v, none, arguments)
		checkStrptime(t, v, v, none, arguments)
	}
	checkStrptime(t, str("2015-02-30"), str("%F"), none, `date "2015-02-30" does not match format "%F"`)
	checkStrptime(t, str("x"), str(""), none, `date "x" does not match format ""`)
	checkStrptime(t, str(""), str("%"), none, `date "" does not match format "%"`)
	checkStrptime(t, str("a\"\\\n\x00é"), str("\t\"%q\""), none, "date \"a\"\\\n\x00é\" does not match format \"\t\"%q\"\"")
}

// TestStrptimeTooLarge: what is told of a refusal is a value, too.
func TestStrptimeTooLarge(t *testing.T) {
	const rest = len(`date "" does not match format "%F"`)
	most := strings.Repeat("x", api.MaxBytes-rest)
	checkStrptime(t, str(most), str("%F"), none, `date "`+most+`" does not match format "%F"`)
	checkStrptime(t, str(most+"x"), str("%F"), none, "value is too large")
	full := strings.Repeat(" ", api.MaxBytes)
	checkStrptime(t, str(full), str(full), one("[1900,0,1,0,0,0,1,0]"), "")
	checkStrptime(t, str(full), str(full+"x"), none, "value is too large")
	checkStrptime(t, str("x"), str(strings.Repeat("x", api.MaxBytes)), none, "value is too large")
}
