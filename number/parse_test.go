package number_test

import (
	"math"
	"math/big"
	"math/rand"
	"strings"
	"testing"

	"colander/api"
	"colander/number"
)

// same tells whether two doubles are the same to the bit.
func same(a, b float64) bool {
	return math.Float64bits(a) == math.Float64bits(b)
}

// checkParse holds Parse of a text against the model.
func checkParse(t *testing.T, s string) {
	t.Helper()
	f, e := number.Parse(s)
	minus, x, ok := numberOf(s)
	if !ok {
		if e != api.ErrNumber || !same(f, 0) {
			t.Fatalf("Parse(%q) = %v, %d, want ErrNumber", s, f, e)
		}
		return
	}
	if e != api.OK {
		t.Fatalf("Parse(%q): error %d", s, e)
	}
	if math.Signbit(f) != minus || !isNearest(x, math.Abs(f)) {
		t.Fatalf("Parse(%q) = %v: not the nearest double", s, f)
	}
}

// P2.1

func TestParseByHand(t *testing.T) {
	minusZero := math.Copysign(0, -1)
	for _, x := range []struct {
		s    string
		want float64
	}{
		{"0", 0}, {"+0", 0}, {"-0", minusZero}, {"-0.0", minusZero}, {"-.0e5", minusZero}, {"-000", minusZero},
		{"0e999999999999999999999", 0}, {"-0e999999999999999999999", minusZero},
		{"1", 1}, {"-1", -1}, {"+1", 1}, {".5", 0.5}, {"5.", 5}, {"+007", 7}, {"-.5", -0.5}, {"-5.", -5}, {"00.50", 0.5},
		{"1e2", 100}, {"1E2", 100}, {"1e+2", 100}, {"1E-2", 0.01}, {"5.e1", 50}, {".5e1", 5}, {"1e002", 100}, {"1e-0", 1}, {"1e+00", 1},
		{"12.375", 12.375}, {"123456789012345680", 123456789012345680}, {"0.1", 0.1}, {"3.141592653589793", math.Pi},
		{"9007199254740993", 9007199254740992}, {"9007199254740995", 9007199254740996},
		{"9007199254740993.0000000000000000000000000000000000001", 9007199254740994},
		{"9007199254740992.9999999999999999999999999999999999999", 9007199254740992},
		{"1e23", 1e23}, {"8.5e22", 8.5e22}, {"1.00000000000000011102230246251565404236316680908203125", 1},
		{"1.00000000000000011102230246251565404236316680908203124", 1},
		{"1.00000000000000011102230246251565404236316680908203126", math.Nextafter(1, 2)},
		{"1.00000000000000033306690738754696212708950042724609375", 1.0000000000000004},
		{"1.7976931348623157e308", math.MaxFloat64}, {"-1.7976931348623157e308", -math.MaxFloat64},
		{"1.797693134862315807e308", math.MaxFloat64}, {"1.797693134862315808e308", math.Inf(1)},
		{"-1.797693134862315808e308", math.Inf(-1)}, {"1e309", math.Inf(1)}, {"1e1000", math.Inf(1)}, {"-1e1000", math.Inf(-1)},
		{"1e9223372036854775807", math.Inf(1)}, {"1e9223372036854775808", math.Inf(1)}, {"-1e99999999999999999999999999", math.Inf(-1)},
		{"2.2250738585072014e-308", 0x1p-1022}, {"2.2250738585072011e-308", 0x0.fffffffffffffp-1022},
		{"5e-324", 5e-324}, {"4.9406564584124654e-324", 5e-324}, {"3e-324", 5e-324}, {"2e-324", 0}, {"-2e-324", minusZero},
		{"2.4703282292062327e-324", 0}, {"2.4703282292062328e-324", 5e-324}, {"7.5e-324", 1e-323},
		{"1e-9223372036854775808", 0}, {"1e-9223372036854775809", 0}, {"-1e-99999999999999999999999999", minusZero},
	} {
		if f, e := number.Parse(x.s); e != api.OK || !same(f, x.want) {
			t.Errorf("Parse(%q) = %v, %d, want %v", x.s, f, e, x.want)
		}
	}
}

func TestParseRefuses(t *testing.T) {
	for _, s := range []string{
		"", ".", "+", "-", "+.", "-.", "e", "e5", ".e5", "+e5", "-.e1", "1e", "1e+", "1e-", "1E", "1.e", ".1e", "1e.", "1e.5", "1e1.", "1e1.5",
		"1e1e1", "1ee1", "1e++1", "1e+-1", "1e--1", "1e1-", "--1", "++1", "+-1", "-+1", "1-", "1+", "1.2.3", "1..2", "..1", "1..", "1.+2",
		" 1", "1 ", "1 2", "\t1", "1\n", "1\r", "- 1", "1 e5", "1e 5", "1\x00", "\x001", "1\xff", "\xff", "1,5", "1'000",
		"1_0", "1__0", "_1", "1_", "1._0", "1e1_0", "0x1", "0X1", "0x1p3", "0x.8p1", "0b1", "0o7", "1p3", "1f", "1d", "1L", "0x", "1i",
		"inf", "Inf", "+Inf", "-inf", "infinity", "-Infinity", "nan", "NaN", "-NaN", "null", "true", "abc",
		"\u0661", "1\u0662", "\uff11", "\u00b2", "\u22121", "1\u00a0", "\ufeff1", "1e\u0661",
		"1e99999999999999999999x", "1e99999999999999999999 ", "1e-99999999999999999999.", "1e99999999999999999999e1", strings.Repeat("1", 2000) + "x", strings.Repeat("0", 2000) + "_0",
	} {
		if f, e := number.Parse(s); e != api.ErrNumber || !same(f, 0) {
			t.Errorf("Parse(%q) = %v, %d, want ErrNumber", s, f, e)
		}
	}
}

// TestParseGrammar asks of all short texts of the bytes that matter whether they are numbers.
func TestParseGrammar(t *testing.T) {
	bytes := []string{"+", "-", "0", "7", ".", "e", "E", "_"}
	texts := []string{""}
	for n := 0; n <= 5; n++ {
		var longer []string
		for _, s := range texts {
			checkParse(t, s)
			for _, b := range bytes {
				longer = append(longer, s+b)
			}
		}
		texts = longer
	}
}

// TestParseEachByte puts each byte behind, within and ahead of numbers.
func TestParseEachByte(t *testing.T) {
	for c := range 256 {
		b := string([]byte{byte(c)})
		for _, s := range []string{b, b + "1", "1" + b, "1" + b + "1", "1e" + b + "1", "1e1" + b, "." + b, b + "."} {
			checkParse(t, s)
		}
	}
}

func TestParseNearest(t *testing.T) {
	r := rand.New(rand.NewSource(1))
	digits := func(n int) string {
		b := make([]byte, n)
		for i := range b {
			b[i] = byte('0' + r.Intn(10))
		}
		return string(b)
	}
	for range 6000 {
		s := []string{"", "+", "-"}[r.Intn(3)] + strings.Repeat("0", r.Intn(3)) + digits(1+r.Intn(30))
		if r.Intn(2) == 0 {
			s += "." + digits(r.Intn(30))
		}
		if r.Intn(3) > 0 {
			s += []string{"e", "E"}[r.Intn(2)] + []string{"", "+", "-"}[r.Intn(3)] + digits(1+r.Intn(2))
		}
		checkParse(t, s)
		checkParse(t, digits(1+r.Intn(20))+"e"+[]string{"", "+", "-"}[r.Intn(3)]+big.NewInt(int64(280+r.Intn(70))).String())
	}
}

// TestParseHalfway asks for what is halfway between two doubles, and for what is a little beside it, far behind the point.
func TestParseHalfway(t *testing.T) {
	eachDouble(30, func(f float64) {
		s := expansion(middle(f))
		checkParse(t, s)
		checkParse(t, "-"+s+strings.Repeat("0", 50))
		checkParse(t, s+strings.Repeat("0", 40)+"1")
		if s[len(s)-1] != '.' { // its last digit is not 0, then
			checkParse(t, s[:len(s)-1]+string(s[len(s)-1]-1)+"99999")
		}
	})
}

// TestParseLong asks for numbers whose many digits and whose exponent make up for each other.
func TestParseLong(t *testing.T) {
	const n = 1000000
	noughts := strings.Repeat("0", n)
	for _, x := range []struct {
		s    string
		want float64
	}{
		{"0." + noughts + "1e1000001", 1},
		{"-0." + noughts + "25e1000002", -25},
		{"." + noughts + "1e1000310", math.Inf(1)},
		{"1" + noughts + "e-1000000", 1},
		{"25" + noughts + ".e-1000001", 2.5},
		{"-1" + noughts + "e-1000400", math.Copysign(0, -1)},
		{"1" + noughts, math.Inf(1)},
		{"0." + noughts + "1", 0},
		{noughts + "7", 7},
		{noughts + "." + noughts + "e" + noughts + "7", 0},
		{"1e" + noughts + "7", 1e7},
		{"1e-" + noughts + "7", 1e-7},
		{"1e" + strings.Repeat("9", n), math.Inf(1)},
		{"1e-" + strings.Repeat("9", n), 0},
		{"1." + noughts + "1", 1},
		{"9007199254740993." + noughts + "1", 9007199254740994},
		{"9007199254740993" + noughts + ".0e-1000000", 9007199254740992},
		{"9007199254740993" + noughts + "1e-1000001", 9007199254740994},
		{"0." + strings.Repeat("9", n), 1},
		{strings.Repeat("1", n) + "e-999999", 1.1111111111111112},
	} {
		if f, e := number.Parse(x.s); e != api.OK || !same(f, x.want) {
			t.Errorf("Parse(%.20q .. %q) = %v, %d, want %v", x.s, x.s[len(x.s)-10:], f, e, x.want)
		}
	}
}
