package calendar_test

import (
	"math"
	"math/big"
	"math/rand"
	"testing"
	"time"

	"colander/api"
	"colander/calendar"
)

// P11.2

// The first second of all years, and the first one behind them.
const (
	firstSecond = firstDay * daySeconds
	endSecond   = (lastDay + 1) * daySeconds
)

var minusNought = math.Copysign(0, -1)

// same tells whether two times are the same, seconds to the bit.
func same(a, b api.Time) bool {
	return a == b && math.Float64bits(a.Sec) == math.Float64bits(b.Sec)
}

func checkSplit(t *testing.T, sec float64, want api.Time) {
	t.Helper()
	if got, code := calendar.Split(sec); !same(got, want) || code != api.OK {
		t.Errorf("Split(%v) answers %v and %d, want %v", sec, got, code, want)
	}
}

func TestSplitByHand(t *testing.T) {
	march := 1425599621.678
	checkSplit(t, march, api.Time{Year: 2015, Month: 2, Day: 5, Hour: 23, Min: 53, Sec: 41 + (march - 1425599621), Wday: 4, Yday: 63})
	checkSplit(t, -1, api.Time{Year: 1969, Month: 11, Day: 31, Hour: 23, Min: 59, Sec: 59, Wday: 3, Yday: 364})
	checkSplit(t, 0, api.Time{Year: 1970, Day: 1, Wday: 4})
	checkSplit(t, minusNought, api.Time{Year: 1970, Day: 1, Wday: 4})
	checkSplit(t, 59, api.Time{Year: 1970, Day: 1, Sec: 59, Wday: 4})
	checkSplit(t, 60, api.Time{Year: 1970, Day: 1, Min: 1, Wday: 4})
	checkSplit(t, 3599, api.Time{Year: 1970, Day: 1, Min: 59, Sec: 59, Wday: 4})
	checkSplit(t, 3600, api.Time{Year: 1970, Day: 1, Hour: 1, Wday: 4})
	checkSplit(t, 86399, api.Time{Year: 1970, Day: 1, Hour: 23, Min: 59, Sec: 59, Wday: 4})
	checkSplit(t, 86400, api.Time{Year: 1970, Day: 2, Wday: 5, Yday: 1})
	checkSplit(t, -86400, api.Time{Year: 1969, Month: 11, Day: 31, Wday: 3, Yday: 364})
	checkSplit(t, -86401, api.Time{Year: 1969, Month: 11, Day: 30, Hour: 23, Min: 59, Sec: 59, Wday: 2, Yday: 363})
	checkSplit(t, 3*86400, api.Time{Year: 1970, Day: 4, Wday: 0, Yday: 3})
	checkSplit(t, 951782400, api.Time{Year: 2000, Month: 1, Day: 29, Wday: 2, Yday: 59})
	checkSplit(t, 978220800, api.Time{Year: 2000, Month: 11, Day: 31, Wday: 0, Yday: 365})
}

func TestSplitOfFractions(t *testing.T) {
	checkSplit(t, 0.5, api.Time{Year: 1970, Day: 1, Sec: 0.5, Wday: 4})
	checkSplit(t, 1e-300, api.Time{Year: 1970, Day: 1, Sec: 1e-300, Wday: 4})
	checkSplit(t, math.SmallestNonzeroFloat64, api.Time{Year: 1970, Day: 1, Sec: math.SmallestNonzeroFloat64, Wday: 4})
	checkSplit(t, 59.75, api.Time{Year: 1970, Day: 1, Sec: 59.75, Wday: 4})
	checkSplit(t, 86399.25, api.Time{Year: 1970, Day: 1, Hour: 23, Min: 59, Sec: 59.25, Wday: 4})
	evening := api.Time{Year: 1969, Month: 11, Day: 31, Hour: 23, Min: 59, Wday: 3, Yday: 364}
	evening.Sec = 59.75
	checkSplit(t, -0.25, evening)
	evening.Sec = 58.5
	checkSplit(t, -1.5, evening)
	// What is rounded to a whole second is no next minute.
	evening.Sec = 60
	checkSplit(t, -1e-20, evening)
	checkSplit(t, -math.SmallestNonzeroFloat64, evening)
	checkSplit(t, -1e-16, evening)
	// The difference is rounded to 1 - 2^-48, from where 60 is as near as the number below it; the exact sum is nearer to that one.
	checkSplit(t, math.Nextafter(-1.0/(1<<48), -1), evening)
	evening.Sec = math.Nextafter(60, 0)
	checkSplit(t, math.Nextafter(-1.0/(1<<48), -1)-1.0/(1<<53), evening)
}

func TestSplitAtTheEnds(t *testing.T) {
	checkSplit(t, firstSecond, api.Time{Year: -9999, Day: 1, Wday: 1})
	checkSplit(t, math.Nextafter(firstSecond, 0), api.Time{Year: -9999, Day: 1, Sec: 1.0 / (1 << 14), Wday: 1})
	last := api.Time{Year: 9999, Month: 11, Day: 31, Hour: 23, Min: 59, Sec: 59, Wday: 5, Yday: 364}
	checkSplit(t, endSecond-1, last)
	last.Sec = 60 - 1.0/(1<<15)
	checkSplit(t, math.Nextafter(endSecond, 0), last)
}

func TestSplitOfNoSeconds(t *testing.T) {
	for _, sec := range []float64{
		math.NaN(), math.Inf(1), math.Inf(-1), math.MaxFloat64, -math.MaxFloat64, 1e300, -1e300, 1 << 63, -1 << 63, 1 << 62, 1 << 64, 1e12, -1e12,
		endSecond, endSecond + 1, math.Nextafter(endSecond, 1e300),
		firstSecond - 1, firstSecond - 0.5, math.Nextafter(firstSecond, -1e300),
	} {
		if got, code := calendar.Split(sec); !same(got, api.Time{}) || code != api.ErrDate {
			t.Errorf("Split(%v) answers %v and %d", sec, got, code)
		}
	}
}

// splitOf takes seconds apart by fractions and Go's own calendar.
func splitOf(sec float64) api.Time {
	exact := new(big.Rat).SetFloat64(sec)
	whole := new(big.Int).Div(exact.Num(), exact.Denom()) // downwards, as the denominator is above 0
	above, _ := exact.Sub(exact, new(big.Rat).SetInt(whole)).Float64()
	at := time.Unix(whole.Int64(), 0).UTC()
	sum := new(big.Rat).SetFloat64(above)
	second, _ := sum.Add(sum, new(big.Rat).SetInt64(int64(at.Second()))).Float64()
	return api.Time{
		Year: at.Year(), Month: int(at.Month()) - 1, Day: at.Day(),
		Hour: at.Hour(), Min: at.Minute(), Sec: second,
		Wday: int(at.Weekday()), Yday: at.YearDay() - 1,
	}
}

// someSeconds answers seconds that Split takes apart, near to 0, to the ends or to a day's end, or anywhere.
func someSeconds(r *rand.Rand) float64 {
	for {
		sec := r.Float64()
		switch r.Intn(6) {
		case 0:
			sec = math.Ldexp(sec-0.5, -r.Intn(80))
		case 1:
			sec = float64(r.Intn(200000)-100000) + math.Ldexp(sec-0.5, -r.Intn(40))
		case 2:
			sec = endSecond - math.Ldexp(sec, r.Intn(30))
		case 3:
			sec = firstSecond + math.Ldexp(sec, r.Intn(30))
		case 4:
			day := firstDay + r.Intn(lastDay-firstDay)
			sec = float64(day*daySeconds) + math.Ldexp(sec-0.5, r.Intn(10)-8)
		case 5:
			sec = firstSecond + sec*(endSecond-firstSecond)
		}
		if sec >= firstSecond && sec < endSecond {
			return sec
		}
	}
}

func TestSplitAsTheModel(t *testing.T) {
	r := rand.New(rand.NewSource(112))
	for range 200000 {
		sec := someSeconds(r)
		checkSplit(t, sec, splitOf(sec))
	}
}

// TestSplitOfAllDays looks at a day's first and last second, and one within it.
func TestSplitOfAllDays(t *testing.T) {
	r := rand.New(rand.NewSource(1120))
	for w := range walk(19999) {
		within := r.Intn(daySeconds)
		for _, rest := range []int{0, within, daySeconds - 1} {
			want := api.Time{
				Year: w.year, Month: w.month, Day: w.day,
				Hour: rest / 3600, Min: rest % 3600 / 60, Sec: float64(rest % 60),
				Wday: w.weekday, Yday: w.yearDay,
			}
			checkSplit(t, float64(w.n*daySeconds+rest), want)
		}
		if t.Failed() {
			return
		}
	}
}
