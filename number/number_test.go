package number_test

import (
	"math"
	"math/big"
	"math/rand"
	"strconv"
	"strings"
	"testing"

	"colander/api"
	"colander/number"
)

// notNumbers are doubles that are no number, with several bits.
func notNumbers() []float64 {
	var out []float64
	for _, b := range []uint64{0x7ff8000000000000, 0x7ff8000000000001, 0xfff8000000000000, 0x7ff0000000000001, 0xfff0000000000001, 0x7fffffffffffffff, 0xffffffffffffffff} {
		out = append(out, math.Float64frombits(b))
	}
	return out
}

// P2.2

func TestDigitsByHand(t *testing.T) {
	for _, x := range []struct {
		f      float64
		digits string
		exp    int
	}{
		{0, "0", 0}, {math.Copysign(0, -1), "0", 0}, {math.Inf(1), "0", 0}, {math.Inf(-1), "0", 0},
		{1, "1", 0}, {-1, "1", 0}, {1500, "15", 3}, {-1500, "15", 3}, {0.1, "1", -1}, {0.00025, "25", -4}, {10, "1", 1}, {1e22, "1", 22},
		{123.456, "123456", 2}, {1e23, "1", 23}, {9007199254740993, "9007199254740992", 15}, {math.Pi, "3141592653589793", 0},
		{math.MaxFloat64, "17976931348623157", 308}, {5e-324, "5", -324}, {1e-323, "1", -323}, {1.5e-323, "15", -323},
		{0x1p-1022, "22250738585072014", -308}, {0x0.fffffffffffffp-1022, "2225073858507201", -308},
		{0x1p-44, "5684341886080802", -14}, {0.30000000000000004, "30000000000000004", -1}, {5e-5, "5", -5}, {9.5367431640625e-07, "95367431640625", -7},
	} {
		if d, e := number.Digits(x.f); d != x.digits || e != x.exp {
			t.Errorf("Digits(%v) = %q, %d, want %q, %d", x.f, d, e, x.digits, x.exp)
		}
	}
	for _, f := range notNumbers() {
		if d, e := number.Digits(f); d != "0" || e != 0 {
			t.Errorf("Digits(%x) = %q, %d", math.Float64bits(f), d, e)
		}
	}
}

// checkDigits holds the digits and the text of a double above 0, and of the one below 0, against the model.
func checkDigits(t *testing.T, f float64) {
	t.Helper()
	digits, exp := digitsOf(f)
	text := textOf(digits, exp)
	for _, f := range []float64{f, -f} {
		if d, e := number.Digits(f); d != digits || e != exp {
			t.Fatalf("Digits(%b) = %q, %d, want %q, %d", f, d, e, digits, exp)
		}
		if got := number.Text(f); got != text {
			t.Fatalf("Text(%b) = %q, want %q", f, got, text)
		}
		text = "-" + text
	}
}

func TestDigitsAndText(t *testing.T) {
	eachPower(func(f float64) { checkDigits(t, f) })
	eachDouble(300, func(f float64) { checkDigits(t, f) })
}

// P2.3

func TestTextByHand(t *testing.T) {
	for _, x := range []struct {
		f    float64
		want string
	}{
		{0, "0"}, {math.Copysign(0, -1), "-0"}, {math.Inf(1), "1.7976931348623157e+308"}, {math.Inf(-1), "-1.7976931348623157e+308"},
		{math.MaxFloat64, "1.7976931348623157e+308"}, {-math.MaxFloat64, "-1.7976931348623157e+308"}, {5e-324, "5e-324"}, {-5e-324, "-5e-324"},
		{1, "1"}, {-1, "-1"}, {10, "10"}, {100, "100"}, {1.5, "1.5"}, {-12.25, "-12.25"}, {0.1, "0.1"}, {-0.5, "-0.5"}, {0.025, "0.025"}, {3.0, "3"},
		{0.001, "0.001"}, {0.0001, "0.0001"}, {0.00012, "0.00012"}, {1e-5, "1e-05"}, {1.25e-5, "1.25e-05"}, {-1e-5, "-1e-05"}, {9.999e-5, "9.999e-05"},
		{1e-9, "1e-09"}, {1e-10, "1e-10"}, {1e-99, "1e-99"}, {1e-100, "1e-100"}, {1.5e-7, "1.5e-07"},
		{1e15, "1000000000000000"}, {1e16, "1e+16"}, {-1e16, "-1e+16"}, {1.2e16, "12000000000000000"}, {1.2e17, "1.2e+17"}, {1.23e17, "123000000000000000"}, {1.23e18, "1.23e+18"},
		{123456789012345680, "123456789012345680"}, {1.2345678901234567e31, "12345678901234567000000000000000"}, {1.2345678901234567e32, "1.2345678901234567e+32"},
		{1e17, "1e+17"}, {1e99, "1e+99"}, {1e100, "1e+100"}, {1.5e300, "1.5e+300"}, {9007199254740992, "9007199254740992"}, {0.30000000000000004, "0.30000000000000004"},
		{4294967296, "4294967296"}, {123456.789, "123456.789"}, {0x1p63, "9223372036854776000"},
	} {
		if got := number.Text(x.f); got != x.want {
			t.Errorf("Text(%b) = %q, want %q", x.f, got, x.want)
		}
	}
	for _, f := range notNumbers() {
		if got := number.Text(f); got != "null" {
			t.Errorf("Text(%x) = %q", math.Float64bits(f), got)
		}
	}
}

// TestTextEnds goes over the powers at which plain writing ends, with each number of digits.
func TestTextEnds(t *testing.T) {
	for n := 1; n <= 15; n++ {
		digits := "123456789123456"[:n]
		for e := -8; e <= n+18; e++ {
			f, err := strconv.ParseFloat(digits+"e"+strconv.Itoa(e-n+1), 64)
			if err != nil {
				t.Fatal(err)
			}
			if got, want := number.Text(f), textOf(digits, e); got != want {
				t.Errorf("Text of %s with power %d = %q, want %q", digits, e, got, want)
			}
			plain := e >= -4 && e <= n+14
			if got := number.Text(-f); strings.Contains(got, "e") == plain || got[0] != '-' {
				t.Errorf("Text of -%s with power %d = %q", digits, e, got)
			}
		}
	}
}

// P2.4

func TestWholeAndIntByHand(t *testing.T) {
	for _, x := range []struct {
		f     float64
		whole bool
		n     int
	}{
		{0, true, 0}, {math.Copysign(0, -1), true, 0}, {1, true, 1}, {-1, true, -1}, {3, true, 3}, {-2.9, false, -2}, {2.9, false, 2}, {0.5, false, 0}, {-0.5, false, 0},
		{0.9999999999999999, false, 0}, {-0.9999999999999999, false, 0}, {5e-324, false, 0}, {-5e-324, false, 0},
		{1e15 + 0.5, false, 1000000000000000}, {4503599627370495.5, false, 4503599627370495}, {-4503599627370495.5, false, -4503599627370495}, {4503599627370496, true, 4503599627370496},
		{9007199254740991, true, 9007199254740991}, {9007199254740992, true, 9007199254740992}, {-9007199254740992, true, -9007199254740992},
		{9223372036854774784, true, 9223372036854774784}, {-9223372036854774784, true, -9223372036854774784},
		{0x1p63, true, math.MaxInt}, {-0x1p63, true, math.MinInt}, {math.Nextafter(-0x1p63, math.Inf(-1)), true, math.MinInt}, {0x1p64, true, math.MaxInt}, {-0x1p64, true, math.MinInt},
		{1e300, true, math.MaxInt}, {-1e300, true, math.MinInt}, {math.MaxFloat64, true, math.MaxInt}, {-math.MaxFloat64, true, math.MinInt},
		{math.Inf(1), false, math.MaxInt}, {math.Inf(-1), false, math.MinInt},
	} {
		if got := number.Whole(x.f); got != x.whole {
			t.Errorf("Whole(%v) = %v", x.f, got)
		}
		if got := number.Int(x.f); got != x.n {
			t.Errorf("Int(%v) = %d, want %d", x.f, got, x.n)
		}
	}
	for _, f := range notNumbers() {
		if number.Whole(f) || number.Int(f) != 0 {
			t.Errorf("Whole, Int of %x: %v, %d", math.Float64bits(f), number.Whole(f), number.Int(f))
		}
	}
}

func TestWholeAndInt(t *testing.T) {
	check := func(f float64) {
		x := exact(f)
		if got := number.Whole(f); got != x.IsInt() {
			t.Fatalf("Whole(%b) = %v", f, got)
		}
		want := new(big.Int).Quo(x.Num(), x.Denom())
		n := math.MaxInt
		switch {
		case want.IsInt64():
			n = int(want.Int64())
		case want.Sign() < 0:
			n = math.MinInt
		}
		if got := number.Int(f); got != n {
			t.Fatalf("Int(%b) = %d, want %d", f, got, n)
		}
	}
	both := func(f float64) {
		check(f)
		check(-f)
	}
	eachPower(both)
	eachDouble(300, both)
	r := rand.New(rand.NewSource(4))
	for range 2000 {
		both(math.Ldexp(float64(r.Int63n(1<<53)), r.Intn(70)-56))
	}
}

// P2.5

func TestParseUndoesText(t *testing.T) {
	check := func(f float64) {
		for _, f := range []float64{f, -f} {
			if got, e := number.Parse(number.Text(f)); e != api.OK || !same(got, f) {
				t.Fatalf("Parse(%q) = %b, %d, want %b", number.Text(f), got, e, f)
			}
		}
	}
	check(0)
	eachPower(check)
	eachDouble(3000, check)
}

func TestNoFewerDigitsDo(t *testing.T) {
	check := func(f float64) {
		digits, exp := number.Digits(f)
		n := len(digits) - 1
		if n == 0 {
			return
		}
		for _, up := range []int64{0, 1} { // those of fewer digits that stand beside it
			short, _ := new(big.Int).SetString(digits[:n], 10)
			s := short.Add(short, big.NewInt(up)).String() + "e" + strconv.Itoa(exp-n+1)
			if got, e := number.Parse(s); e != api.OK || same(got, f) {
				t.Fatalf("Parse(%q) = %b, %d: fewer digits than %q", s, got, e, digits)
			}
		}
	}
	eachPower(check)
	eachDouble(1000, check)
}

func TestMoreDigitsDo(t *testing.T) {
	eachDouble(100, func(f float64) {
		digits, exp := number.Digits(f)
		texts := []string{
			"000" + digits + "000e" + strconv.Itoa(exp-len(digits)-2),
			"0." + digits + "00000e" + strconv.Itoa(exp+1),
			digits + ".00E" + strconv.Itoa(exp-len(digits)+1),
			expansion(exact(f)),
		}
		for n := 16; n < 60; n += 3 {
			texts = append(texts, strconv.FormatFloat(f, 'e', n, 64))
		}
		for _, s := range texts {
			if got, e := number.Parse(s); e != api.OK || !same(got, f) {
				t.Fatalf("Parse(%q) = %b, %d, want %b", s, got, e, f)
			}
		}
	})
}

func TestGreaterIsNotLess(t *testing.T) {
	r := rand.New(rand.NewSource(5))
	for range 20000 {
		n := new(big.Int).Rand(r, new(big.Int).Lsh(big.NewInt(1), uint(1+r.Intn(1100))))
		more := new(big.Int).Rand(r, new(big.Int).Lsh(big.NewInt(1), uint(1+r.Intn(60))))
		less, _ := number.Parse(n.String())
		greater, _ := number.Parse(more.Add(more, n).String())
		if greater < less {
			t.Fatalf("Parse(%s) = %v, Parse(%s) = %v", n, less, more, greater)
		}
	}
}
