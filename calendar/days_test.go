package calendar_test

import (
	"math"
	"math/rand"
	"testing"
	"time"

	"colander/api"
	"colander/calendar"
)

// P11.1

// far are numbers that are none of anything.
var far = []int{math.MinInt, math.MinInt + 1, math.MinInt32, math.MaxInt32, math.MaxInt32 + 1, math.MaxInt - 1, math.MaxInt}

func TestLeapByHand(t *testing.T) {
	for year, want := range map[int]bool{
		2000: true, 1900: false, 1600: true, 1700: false, 2024: true, 2023: false, 2022: false, 2021: false,
		0: true, 1: false, 4: true, 100: false, 400: true,
		-1: false, -2: false, -4: true, -100: false, -200: false, -400: true, -9999: false, -9996: true,
		9999: false, 10000: true, -10000: true, 12345678900: false, 12345678800: true,
		math.MaxInt: false, math.MinInt: true, math.MinInt + 8: false, math.MaxInt - 3: true,
	} {
		if got := calendar.Leap(year); got != want {
			t.Errorf("Leap(%d) answers %t", year, got)
		}
	}
}

func TestLeapOfManyYears(t *testing.T) {
	for year := -20000; year <= 20000; year++ {
		if got := calendar.Leap(year); got != isLeap(year) {
			t.Errorf("Leap(%d) answers %t", year, got)
		}
	}
}

func TestLengthByHand(t *testing.T) {
	for month, want := range []int{31, 28, 31, 30, 31, 30, 31, 31, 30, 31, 30, 31} {
		for _, year := range []int{2023, 1900, -1, -9999, 9999} {
			if got := calendar.Length(year, month); got != want {
				t.Errorf("Length(%d, %d) answers %d, want %d", year, month, got, want)
			}
		}
	}
	for _, year := range []int{2000, 2024, 0, -4, -400, 9996} {
		if got := calendar.Length(year, 1); got != 29 {
			t.Errorf("Length(%d, 1) answers %d", year, got)
		}
		if got := calendar.Length(year, 0); got != 31 {
			t.Errorf("Length(%d, 0) answers %d", year, got)
		}
	}
}

// TestLengthOfFarYears: as Leap, Length knows years without end.
func TestLengthOfFarYears(t *testing.T) {
	for _, year := range append([]int{-10000, -10001, 10000, 10001, 12345678800}, far...) {
		for month := range 12 {
			if got := calendar.Length(year, month); got != lengthOf(year, month) {
				t.Errorf("Length(%d, %d) answers %d", year, month, got)
			}
		}
	}
}

func TestLengthOfNoMonth(t *testing.T) {
	for _, month := range append([]int{-1, -11, -12, 12, 13, 24}, far...) {
		for _, year := range []int{2000, 2023, 0, -9999, 9999} {
			if got := calendar.Length(year, month); got != 0 {
				t.Errorf("Length(%d, %d) answers %d", year, month, got)
			}
		}
	}
}

// checkDay holds Day and Date to a date and its number.
func checkDay(t *testing.T, year, month, day, n int) {
	t.Helper()
	if got, code := calendar.Day(year, month, day); got != n || code != api.OK {
		t.Fatalf("Day(%d, %d, %d) answers %d and %d, want %d", year, month, day, got, code, n)
	}
	if y, m, d, code := calendar.Date(n); y != year || m != month || d != day || code != api.OK {
		t.Fatalf("Date(%d) answers %d, %d, %d and %d, want %d, %d, %d", n, y, m, d, code, year, month, day)
	}
}

func TestDaysByHand(t *testing.T) {
	checkDay(t, 1970, 0, 1, 0)
	checkDay(t, 1969, 11, 31, -1)
	checkDay(t, 1970, 0, 2, 1)
	checkDay(t, 1970, 1, 1, 31)
	checkDay(t, 1971, 0, 1, 365)
	checkDay(t, 2000, 1, 29, 11016)
	checkDay(t, 2000, 2, 1, 11017)
	checkDay(t, 1900, 1, 28, -25509)
	checkDay(t, 1900, 2, 1, -25508)
	checkDay(t, 2015, 2, 5, 16499)
	checkDay(t, 1, 0, 1, -719162)
	checkDay(t, 0, 11, 31, -719163)
	checkDay(t, 0, 1, 29, -719469)
	checkDay(t, 0, 0, 1, -719528)
	checkDay(t, -1, 11, 31, -719529)
	checkDay(t, -9999, 0, 1, firstDay)
	checkDay(t, 9999, 11, 31, lastDay)
}

func TestAllDays(t *testing.T) {
	last := 0
	for w := range walk(19999) {
		checkDay(t, w.year, w.month, w.day, w.n)
		last = w.n
	}
	if last != lastDay {
		t.Errorf("the last day that was met is %d", last)
	}
}

func TestDaysAsGo(t *testing.T) {
	r := rand.New(rand.NewSource(111))
	for range 100000 {
		n := firstDay + r.Intn(lastDay-firstDay+1)
		at := time.Unix(int64(n)*daySeconds, 0).UTC()
		checkDay(t, at.Year(), int(at.Month())-1, at.Day(), n)
	}
}

// checkNoDay holds Day to a date that is none.
func checkNoDay(t *testing.T, year, month, day int) {
	t.Helper()
	if n, code := calendar.Day(year, month, day); n != 0 || code != api.ErrDate {
		t.Errorf("Day(%d, %d, %d) answers %d and %d", year, month, day, n, code)
	}
}

func TestDayOfNoDate(t *testing.T) {
	checkNoDay(t, 1900, 1, 29)
	checkNoDay(t, -10000, 11, 31)
	checkNoDay(t, 10000, 0, 1)
	checkNoDay(t, 10000, 1, 29)
	checkNoDay(t, 2000, -1, 1)
	checkNoDay(t, 2000, 12, 1)
	checkNoDay(t, 2000, 12, 0)
	for _, year := range []int{-9999, -1, 0, 1900, 1970, 2000, 2023, 9999} {
		for month := range 12 {
			for _, day := range []int{-31, -1, 0, lengthOf(year, month) + 1, 32, 366} {
				checkNoDay(t, year, month, day)
			}
		}
	}
	for _, n := range far {
		checkNoDay(t, n, 0, 1)
		checkNoDay(t, 2000, n, 1)
		checkNoDay(t, 2000, 0, n)
		checkNoDay(t, n, n, n)
	}
}

func TestDateOfNoNumber(t *testing.T) {
	for _, n := range append([]int{firstDay - 1, lastDay + 1, firstDay - cycle, lastDay + cycle}, far...) {
		if y, m, d, code := calendar.Date(n); y != 0 || m != 0 || d != 0 || code != api.ErrDate {
			t.Errorf("Date(%d) answers %d, %d, %d and %d", n, y, m, d, code)
		}
	}
}
