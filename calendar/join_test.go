package calendar_test

import (
	"math"
	"math/big"
	"math/rand"
	"testing"
	"time"

	"colander/api"
	"colander/calendar"
)

// P11.3

// farthest is what a field may be that is joined.
const farthest = 1000000000

// checkJoin holds Join to seconds.
func checkJoin(t *testing.T, at api.Time, want int) {
	t.Helper()
	if got, code := calendar.Join(at); got != want || code != api.OK {
		t.Errorf("Join(%v) answers %d and %d, want %d", at, got, code, want)
	}
}

// checkNoJoin holds Join to refusing.
func checkNoJoin(t *testing.T, at api.Time) {
	t.Helper()
	if got, code := calendar.Join(at); got != 0 || code != api.ErrDate {
		t.Errorf("Join(%v) answers %d and %d", at, got, code)
	}
}

func TestJoinByHand(t *testing.T) {
	checkJoin(t, api.Time{Year: 1970, Day: 1}, 0)
	checkJoin(t, api.Time{Year: 2015, Month: 2, Day: 5, Hour: 23, Min: 51, Sec: 47}, 1425599507)
	checkJoin(t, api.Time{Year: 2015, Month: 2, Day: 5, Hour: 23, Min: 51, Sec: 47, Wday: -77, Yday: math.MaxInt}, 1425599507)
	checkJoin(t, api.Time{Year: 2015, Month: 2, Day: 5, Hour: 23, Min: 51, Sec: 47, Wday: math.MinInt, Yday: 1}, 1425599507)
	checkJoin(t, api.Time{Year: 2015, Month: 14, Day: 0, Hour: 25}, 1456794000)
	checkJoin(t, api.Time{Year: 1970, Month: 12, Day: 1}, 365*daySeconds)
	checkJoin(t, api.Time{Year: 1970, Month: -1, Day: 1}, -31*daySeconds)
	checkJoin(t, api.Time{Year: 1970, Month: -12, Day: 1}, -365*daySeconds)
	checkJoin(t, api.Time{Year: 1970, Month: -13, Day: 1}, -396*daySeconds)
	checkJoin(t, api.Time{Year: 1970, Month: 11, Day: 32}, 365*daySeconds)
	checkJoin(t, api.Time{Year: 1970, Day: 0}, -daySeconds)
	checkJoin(t, api.Time{Year: 1970, Day: -1}, -2*daySeconds)
	checkJoin(t, api.Time{Year: 2023, Month: 1, Day: 29}, 1677628800) // the first of March
	checkJoin(t, api.Time{Year: 1970, Day: 1, Hour: 24}, daySeconds)
	checkJoin(t, api.Time{Year: 1970, Day: 1, Hour: -1}, -3600)
	checkJoin(t, api.Time{Year: 1970, Day: 1, Min: 60}, 3600)
	checkJoin(t, api.Time{Year: 1970, Day: 1, Min: -1}, -60)
	checkJoin(t, api.Time{Year: 1970, Day: 1, Sec: 60}, 60)
	checkJoin(t, api.Time{Year: 1970, Day: 1, Sec: -1}, -1)
	checkJoin(t, api.Time{Year: 1970, Day: 1, Hour: 1, Min: -59, Sec: -61}, -1)
}

func TestJoinTakesSecondsDownwards(t *testing.T) {
	for sec, want := range map[float64]int{
		0.5: 0, 0.999999999: 0, 59.9: 59, 60.5: 60, 1e-300: 0, minusNought: 0,
		-0.5: -1, -1e-300: -1, -1.5: -2, -59.1: -60, -60.5: -61,
		farthest: farthest, farthest - 0.5: farthest - 1, -farthest: -farthest, 0.5 - farthest: -farthest,
	} {
		checkJoin(t, api.Time{Year: 1970, Day: 1, Sec: sec}, want)
	}
}

// fields are what is looked at of a time, but for its seconds.
func fields(at *api.Time) []*int {
	return []*int{&at.Year, &at.Month, &at.Day, &at.Hour, &at.Min}
}

func TestJoinOfFieldsTooFarAway(t *testing.T) {
	for field := range fields(&api.Time{}) {
		for _, n := range append([]int{farthest + 1, -farthest - 1}, far...) {
			at := api.Time{Year: 1970, Day: 1}
			*fields(&at)[field] = n
			checkNoJoin(t, at)
		}
	}
	for _, sec := range []float64{
		math.NaN(), math.Inf(1), math.Inf(-1), math.MaxFloat64, -math.MaxFloat64, 1 << 63, -1 << 63, farthest + 1, -farthest - 1, farthest + 0.5, -farthest - 0.5,
		math.Nextafter(farthest, 2*farthest), math.Nextafter(-farthest, -2*farthest),
	} {
		checkNoJoin(t, api.Time{Year: 1970, Day: 1, Sec: sec})
	}
	// What is too far away is refused also where another field would take it back.
	checkNoJoin(t, api.Time{Year: farthest/12 + 1970, Month: -farthest - 4, Day: 1})
	checkNoJoin(t, api.Time{Year: 1970, Day: 1, Hour: farthest/60 + 1, Min: -farthest - 20})
	checkNoJoin(t, api.Time{Year: 1970, Day: 1, Min: farthest/60 + 1, Sec: -farthest - 20})
}

func TestJoinOfFieldsAsFarAwayAsMayBe(t *testing.T) {
	// 1000000000 months are 83333333 years and 4 months.
	april, _ := calendar.Day(1970, 4, 1)
	checkJoin(t, api.Time{Year: 1970 - 83333333, Month: farthest, Day: 1}, april*daySeconds)
	september, _ := calendar.Day(1969, 8, 1)
	checkJoin(t, api.Time{Year: 1970 + 83333333, Month: -farthest, Day: 1}, september*daySeconds)
	checkJoin(t, api.Time{Year: 1970, Day: 1, Hour: -16666667, Min: farthest}, -20*60)
	checkJoin(t, api.Time{Year: 1970, Day: 1, Hour: 16666667, Min: -farthest}, 20*60)
	checkJoin(t, api.Time{Year: 1970, Day: 1 + 41666667, Hour: -farthest}, 8*3600)
	checkJoin(t, api.Time{Year: 1970, Day: 1 - 41666667, Hour: farthest}, -8*3600)
	checkJoin(t, api.Time{Year: 1970, Day: 1, Min: -16666667, Sec: farthest}, -20)
	for field := range fields(&api.Time{}) {
		if field == 4 { // so many minutes are 1901 years
			continue
		}
		for _, n := range []int{farthest, -farthest} {
			at := api.Time{Year: 1970, Day: 1}
			*fields(&at)[field] = n
			checkNoJoin(t, at)
		}
	}
	checkNoJoin(t, api.Time{Year: farthest, Month: farthest, Day: farthest, Hour: farthest, Min: farthest, Sec: farthest})
	checkNoJoin(t, api.Time{Year: -farthest, Month: -farthest, Day: -farthest, Hour: -farthest, Min: -farthest, Sec: -farthest})
}

func TestJoinAtTheEnds(t *testing.T) {
	checkJoin(t, api.Time{Year: -9999, Day: 1}, firstSecond)
	checkNoJoin(t, api.Time{Year: -9999, Day: 0})
	checkNoJoin(t, api.Time{Year: -9999, Day: 1, Sec: -1})
	checkNoJoin(t, api.Time{Year: -9999, Day: 1, Sec: -0.5})
	checkNoJoin(t, api.Time{Year: -9999, Day: 1, Min: -1})
	checkJoin(t, api.Time{Year: -9999, Day: 1, Min: -1, Sec: 60}, firstSecond)
	checkJoin(t, api.Time{Year: -9999, Day: 0, Hour: 24}, firstSecond)
	last := api.Time{Year: 9999, Month: 11, Day: 31, Hour: 23, Min: 59, Sec: 59}
	checkJoin(t, last, endSecond-1)
	last.Sec = 59.99
	checkJoin(t, last, endSecond-1)
	last.Sec = 60
	checkNoJoin(t, last)
	last.Min, last.Sec = 60, -1
	checkJoin(t, last, endSecond-1)
	checkJoin(t, api.Time{Year: 9999, Month: 11, Day: 32, Hour: -1}, endSecond-3600)
	checkNoJoin(t, api.Time{Year: 9999, Month: 11, Day: 32})
}

// TestJoinOfMonthsBeyondTheEnds: the first of the month must have a number of its own, wherever the day leads from it.
func TestJoinOfMonthsBeyondTheEnds(t *testing.T) {
	checkNoJoin(t, api.Time{Year: 9999, Month: 12, Day: 0})
	checkNoJoin(t, api.Time{Year: 10000, Month: 0, Day: -1000})
	checkJoin(t, api.Time{Year: 10000, Month: -1, Day: 1}, endSecond-31*daySeconds)
	checkNoJoin(t, api.Time{Year: -9999, Month: -1, Day: 32})
	checkNoJoin(t, api.Time{Year: -10000, Month: 11, Day: 1000})
	checkJoin(t, api.Time{Year: -10000, Month: 12, Day: 1}, firstSecond)
	checkJoin(t, api.Time{Year: -9999, Month: 0, Day: 1 - firstDay + lastDay}, endSecond-daySeconds)
	checkNoJoin(t, api.Time{Year: -9999, Month: 0, Day: 2 - firstDay + lastDay})
}

// joinOf makes seconds of a time in numbers without end and by Go's own calendar.
func joinOf(at api.Time) (int, api.Errno) {
	years, month := new(big.Int).DivMod(big.NewInt(int64(at.Year)*12+int64(at.Month)), big.NewInt(12), new(big.Int))
	if years.Int64() < -9999 || years.Int64() > 9999 {
		return 0, api.ErrDate
	}
	first := time.Date(int(years.Int64()), time.Month(month.Int64()+1), 1, 0, 0, 0, 0, time.UTC)
	sum := big.NewInt(first.Unix())
	add := func(n, seconds int) {
		sum.Add(sum, new(big.Int).Mul(big.NewInt(int64(n)), big.NewInt(int64(seconds))))
	}
	add(at.Day-1, daySeconds)
	add(at.Hour, 3600)
	add(at.Min, 60)
	exact := new(big.Rat).SetFloat64(at.Sec)
	sum.Add(sum, new(big.Int).Div(exact.Num(), exact.Denom()))
	if sum.Cmp(big.NewInt(firstSecond)) < 0 || sum.Cmp(big.NewInt(endSecond)) >= 0 {
		return 0, api.ErrDate
	}
	return int(sum.Int64()), api.OK
}

// someField answers a number that a field may have: near to 0, or up to some greater one away from it.
func someField(r *rand.Rand) int {
	n := int(math.Pow(farthest, r.Float64()))
	if r.Intn(4) == 0 {
		n = r.Intn(100)
	}
	return n * (1 - 2*r.Intn(2))
}

// someTime answers a time whose fields need not be in their ranges; often what is far away in one is taken back in another.
func someTime(r *rand.Rand) api.Time {
	at := api.Time{Year: r.Intn(20010) - 10005, Month: someField(r), Day: someField(r), Hour: someField(r), Min: someField(r), Sec: float64(someField(r)), Wday: someField(r), Yday: someField(r)}
	if r.Intn(2) == 0 {
		at.Sec += r.Float64()
		at.Sec = max(min(at.Sec, farthest), -farthest)
	}
	if r.Intn(4) > 0 {
		at.Year -= at.Month / 12
	}
	if r.Intn(4) > 0 {
		at.Day -= at.Hour / 24
	}
	if r.Intn(4) > 0 {
		at.Day = at.Day % 100000
	}
	return at
}

func TestJoinAsTheModel(t *testing.T) {
	r := rand.New(rand.NewSource(113))
	joined := 0
	for range 400000 {
		at := someTime(r)
		want, code := joinOf(at)
		if code == api.OK {
			checkJoin(t, at, want)
			joined++
		} else {
			checkNoJoin(t, at)
		}
		if t.Failed() {
			return
		}
	}
	if joined < 40000 || joined > 360000 {
		t.Errorf("%d times are joined", joined)
	}
}
