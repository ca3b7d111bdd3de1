package calendar_test

import (
	"math"
	"math/rand"
	"testing"

	"colander/api"
	"colander/calendar"
)

// P11.5. That Date undoes Day, and Day Date, TestAllDays holds for all days.

func TestDayIsOfItsDate(t *testing.T) {
	for year := -10001; year <= 10001; year += 7 {
		for month := -1; month <= 12; month++ {
			for day := -1; day <= 33; day++ {
				n, code := calendar.Day(year, month, day)
				if code != api.OK {
					continue
				}
				if y, m, d, code := calendar.Date(n); y != year || m != month || d != day || code != api.OK {
					t.Fatalf("Date of Day(%d, %d, %d) answers %d, %d, %d and %d", year, month, day, y, m, d, code)
				}
			}
		}
	}
}

func TestTheNextDay(t *testing.T) {
	for n := firstDay; n < lastDay; n++ {
		year, month, day, _ := calendar.Date(n)
		day++
		if day > calendar.Length(year, month) {
			month, day = month+1, 1
		}
		if month > 11 {
			year, month = year+1, 0
		}
		if next, code := calendar.Day(year, month, day); next != n+1 || code != api.OK {
			t.Fatalf("the day behind day %d is %d: %d", n, next, code)
		}
	}
}

// TestFourHundredYears: what is 146097 days on is the same day 400 years, that is 20871 weeks, on.
func TestFourHundredYears(t *testing.T) {
	if cycle != 20871*7 {
		t.Fatal("400 years are no whole weeks")
	}
	for n := firstDay; n+cycle <= lastDay; n += 13 {
		year, month, day, _ := calendar.Date(n)
		if y, m, d, code := calendar.Date(n + cycle); y != year+400 || m != month || d != day || code != api.OK {
			t.Fatalf("Date(%d) answers %d, %d, %d and %d", n+cycle, y, m, d, code)
		}
		early, late := weeksOf(t, n), weeksOf(t, n+cycle)
		early.year += 400
		if early != late {
			t.Fatalf("Weeks(%d) answers %v, not %v", n+cycle, late, early)
		}
		a, _ := calendar.Split(float64(n * daySeconds))
		b, _ := calendar.Split(float64((n + cycle) * daySeconds))
		a.Year += 400
		if a != b {
			t.Fatalf("400 years on from day %d it is %v, not %v", n, b, a)
		}
	}
}

func TestJoinUndoesSplit(t *testing.T) {
	r := rand.New(rand.NewSource(115))
	for i := range 300000 {
		sec := math.Floor(someSeconds(r))
		if i < 200 {
			sec = firstSecond + float64(i)
		} else if i < 400 {
			sec = endSecond - float64(i-199)
		}
		at, code := calendar.Split(sec)
		if code != api.OK {
			t.Fatalf("Split(%v) answers %d", sec, code)
		}
		if got, code := calendar.Join(at); got != int(sec) || code != api.OK {
			t.Fatalf("Join of Split(%v) answers %d and %d", sec, got, code)
		}
	}
}

// TestSplitUndoesJoin: of a time within its ranges, Wday and Yday as they are.
func TestSplitUndoesJoin(t *testing.T) {
	r := rand.New(rand.NewSource(1150))
	for w := range walk(19999) {
		at := api.Time{
			Year: w.year, Month: w.month, Day: w.day,
			Hour: r.Intn(24), Min: r.Intn(60), Sec: float64(r.Intn(60)),
			Wday: w.weekday, Yday: w.yearDay,
		}
		sec, code := calendar.Join(at)
		if code != api.OK {
			t.Fatalf("Join(%v) answers %d", at, code)
		}
		if got, code := calendar.Split(float64(sec)); !same(got, at) || code != api.OK {
			t.Fatalf("Split of Join(%v) answers %v and %d", at, got, code)
		}
	}
}
