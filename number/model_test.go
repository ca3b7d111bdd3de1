package number_test

import (
	"math"
	"math/big"
	"math/rand"
	"strings"
)

// The tests' own model of what the document says, made of whole numbers and fractions of any size.

// exact answers a finite double as a fraction.
func exact(f float64) *big.Rat {
	return new(big.Rat).SetFloat64(f)
}

// tenTo answers 10 to the power of n.
func tenTo(n int) *big.Rat {
	power := new(big.Int).Exp(big.NewInt(10), big.NewInt(int64(max(n, -n))), nil)
	r := new(big.Rat).SetInt(power)
	if n < 0 {
		r.Inv(r)
	}
	return r
}

// numberOf answers what the chapter's grammar makes of a text: its sign, its number without the sign, and whether it is one at all.
func numberOf(s string) (bool, *big.Rat, bool) {
	minus := strings.HasPrefix(s, "-")
	if minus || strings.HasPrefix(s, "+") {
		s = s[1:]
	}
	mantissa, power, hasPower := s, "", false
	if i := strings.IndexAny(s, "eE"); i >= 0 {
		mantissa, power, hasPower = s[:i], s[i+1:], true
	}
	exp, ok := wholeOf(strings.TrimPrefix(strings.TrimPrefix(power, "+"), "-"))
	if hasPower && (!ok || strings.HasPrefix(power, "+-")) {
		return false, nil, false
	}
	if strings.HasPrefix(power, "-") {
		exp.Neg(exp)
	}
	digits := strings.Replace(mantissa, ".", "", 1)
	whole, ok := wholeOf(digits)
	if !ok {
		return false, nil, false
	}
	behind := 0
	if i := strings.IndexByte(mantissa, '.'); i >= 0 {
		behind = len(mantissa) - i - 1
	}
	value := new(big.Rat).SetInt(whole)
	return minus, value.Mul(value, tenTo(int(exp.Int64())-behind)), true
}

// wholeOf answers the number of digits, if there are some, and nothing else.
func wholeOf(s string) (*big.Int, bool) {
	n := new(big.Int)
	for _, c := range []byte(s) {
		if c < '0' || c > '9' {
			return n, false
		}
		n.Add(n.Mul(n, big.NewInt(10)), big.NewInt(int64(c-'0')))
	}
	return n, s != ""
}

// middle answers the number halfway between f (from 0 on, finite) and the double above it; behind the greatest one stands 2 to the power of 1024.
func middle(f float64) *big.Rat {
	above := math.Nextafter(f, math.Inf(1))
	sum := new(big.Rat).SetInt(new(big.Int).Lsh(big.NewInt(1), 1024))
	if !math.IsInf(above, 1) {
		sum = exact(above)
	}
	sum.Add(sum, exact(f))
	return sum.Mul(sum, big.NewRat(1, 2))
}

// isNearest tells whether f (from 0 on) is the double that is nearest to x, and, of two, the one whose last bit is 0.
func isNearest(x *big.Rat, f float64) bool {
	even := math.Float64bits(f)%2 == 0
	if !math.IsInf(f, 1) {
		if c := x.Cmp(middle(f)); c > 0 || c == 0 && !even {
			return false
		}
	}
	if f == 0 {
		return true
	}
	c := x.Cmp(middle(math.Nextafter(f, 0)))
	return c > 0 || c == 0 && even
}

// powerOf answers the E for which a number above 0 is from 10 to the power of E on, and below the next one.
func powerOf(x *big.Rat) int {
	f, _ := x.Float64()
	e := -330
	if f > 0 {
		e = int(math.Floor(math.Log10(f)))
	}
	for x.Cmp(tenTo(e)) < 0 {
		e--
	}
	for x.Cmp(tenTo(e+1)) >= 0 {
		e++
	}
	return e
}

// around answers the nearest numbers of n digits that are not above, and above, a double that is above 0.
func around(f float64, n int) (*big.Rat, *big.Rat) {
	x := exact(f)
	unit := tenTo(powerOf(x) - n + 1)
	q := new(big.Rat).Quo(x, unit)
	k := new(big.Rat).SetInt(new(big.Int).Quo(q.Num(), q.Denom()))
	low := new(big.Rat).Mul(k, unit)
	return low, new(big.Rat).Add(low, unit)
}

// bestOf answers the number of n digits that is nearest to f (above 0) of those whose nearest double f is, and whether there is one; of two that are as near, the one whose last digit is even.
func bestOf(f float64, n int) (*big.Rat, bool) {
	x := exact(f)
	low, high := around(f, n)
	lowOK, highOK := isNearest(low, f), isNearest(high, f)
	if !lowOK || !highOK {
		if lowOK {
			return low, true
		}
		return high, highOK
	}
	down := new(big.Rat).Sub(x, low)
	switch down.Cmp(new(big.Rat).Sub(high, x)) {
	case -1:
		return low, true
	case 1:
		return high, true
	}
	count := new(big.Rat).Quo(low, tenTo(powerOf(x)-n+1))
	if count.Num().Bit(0) == 0 {
		return low, true
	}
	return high, true
}

// digitsOf answers what the chapter says of the digits of a finite double that is not 0.
func digitsOf(f float64) (string, int) {
	f = math.Abs(f)
	for n := 1; ; n++ {
		if best, ok := bestOf(f, n); ok {
			e := powerOf(best)
			best.Mul(best, tenTo(n-1-e))
			return strings.TrimRight(best.Num().String(), "0"), e
		}
	}
}

// textOf answers how digits d1.d2 .. times 10 to the power of e are written.
func textOf(digits string, e int) string {
	n := len(digits)
	switch {
	case e < -4 || e > n+14:
		sign, power := "+", e
		if e < 0 {
			sign, power = "-", -e
		}
		point := ""
		if n > 1 {
			point = "."
		}
		two := ""
		if power < 10 {
			two = "0"
		}
		return digits[:1] + point + digits[1:] + "e" + sign + two + big.NewInt(int64(power)).String()
	case e >= n-1:
		return digits + strings.Repeat("0", e-n+1)
	case e >= 0:
		return digits[:e+1] + "." + digits[e+1:]
	}
	return "0." + strings.Repeat("0", -e-1) + digits
}

// expansion answers all digits of a number whose fraction has an end, with a point in them.
func expansion(x *big.Rat) string {
	return strings.TrimRight(x.FloatString(1100), "0")
}

// eachPower gives the powers of 2 and of 10 with what stands beside them, where doubles lie less close than before.
func eachPower(do func(float64)) {
	beside := func(f float64) {
		do(math.Nextafter(f, 0))
		do(f)
		do(math.Nextafter(f, math.Inf(1)))
	}
	for e := -1073; e < 1024; e++ {
		beside(math.Ldexp(1, e))
	}
	for e := -322; e <= 308; e++ {
		f, _ := tenTo(e).Float64()
		beside(f)
	}
}

// eachDouble gives finite doubles above 0 of all sizes, the ends of their ranges among them.
func eachDouble(times int, do func(float64)) {
	r := rand.New(rand.NewSource(2))
	for n := range times {
		do(math.Float64frombits(1 + uint64(n)))                   // the least ones
		do(math.Float64frombits(1<<52 - 32 + uint64(n)%64))       // where normal ones begin
		do(math.Float64frombits(0x7ff<<52 - 1 - uint64(n)))       // the greatest ones
		do(math.Float64frombits(1 + r.Uint64()%(0x7ff<<52-1)))    // any
		do(math.Float64frombits(1 + r.Uint64()>>(12+r.Intn(50)))) // below the least normal one
		do(float64(1 + r.Int63()>>r.Intn(62)))                    // whole ones
		do(float64(1+r.Int63()>>r.Intn(62)) / 100)                // prices
		do(float64(1<<50+r.Intn(1<<50)) + 0.25)                   // halfway between two of 17 digits
	}
}
