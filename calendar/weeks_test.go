package calendar_test

import (
	"math/rand"
	"testing"
	"time"

	"colander/api"
	"colander/calendar"
)

// P11.4

// weeks are what Weeks answers.
type weeks struct{ year, week, fromSunday, fromMonday int }

func weeksOf(t *testing.T, n int) weeks {
	t.Helper()
	year, week, fromSunday, fromMonday, code := calendar.Weeks(n)
	if code != api.OK {
		t.Fatalf("Weeks(%d) answers %d", n, code)
	}
	return weeks{year, week, fromSunday, fromMonday}
}

func dayOf(t *testing.T, year, month, day int) int {
	t.Helper()
	n, code := calendar.Day(year, month, day)
	if code != api.OK {
		t.Fatalf("Day(%d, %d, %d) answers %d", year, month, day, code)
	}
	return n
}

func TestWeeksByHand(t *testing.T) {
	for _, row := range []struct {
		year, month, day int
		want             weeks
	}{
		{2021, 0, 1, weeks{2020, 53, 0, 0}}, // a Friday
		{2021, 0, 2, weeks{2020, 53, 0, 0}},
		{2021, 0, 3, weeks{2020, 53, 1, 0}},
		{2021, 0, 4, weeks{2021, 1, 1, 1}},
		{2021, 0, 9, weeks{2021, 1, 1, 1}},
		{2021, 0, 10, weeks{2021, 1, 2, 1}},
		{2021, 0, 11, weeks{2021, 2, 2, 2}},
		{1970, 0, 1, weeks{1970, 1, 0, 0}}, // a Thursday
		{1969, 11, 29, weeks{1970, 1, 52, 52}},
		{1969, 11, 28, weeks{1969, 52, 52, 51}},
		{2023, 0, 1, weeks{2022, 52, 1, 0}}, // a Sunday
		{2024, 0, 1, weeks{2024, 1, 0, 1}},  // a Monday
		{2024, 11, 29, weeks{2024, 52, 52, 52}},
		{2024, 11, 30, weeks{2025, 1, 52, 53}},
		{2022, 0, 1, weeks{2021, 52, 0, 0}}, // a Saturday
		{2019, 0, 1, weeks{2019, 1, 0, 0}},  // a Tuesday
		{2020, 0, 1, weeks{2020, 1, 0, 0}},  // a Wednesday
		{2020, 11, 31, weeks{2020, 53, 52, 52}},
		{2000, 11, 31, weeks{2000, 52, 53, 52}},
		{2015, 2, 5, weeks{2015, 10, 9, 9}},
		{0, 0, 1, weeks{-1, 52, 0, 0}},
		{-9999, 0, 1, weeks{-9999, 1, 0, 1}},
		{9999, 11, 31, weeks{9999, 52, 52, 52}},
	} {
		if got := weeksOf(t, dayOf(t, row.year, row.month, row.day)); got != row.want {
			t.Errorf("Weeks of %d, %d, %d answers %v, want %v", row.year, row.month, row.day, got, row.want)
		}
	}
}

// TestWeeksOfAllDays counts Sundays and Mondays on the way, and at each Thursday looks at the week that has it.
func TestWeeksOfAllDays(t *testing.T) {
	for w := range walk(19999) {
		got := weeksOf(t, w.n)
		if got.fromSunday != w.sundays || got.fromMonday != w.mondays {
			t.Fatalf("Weeks(%d) answers %v, want the weeks %d and %d", w.n, got, w.sundays, w.mondays)
		}
		if w.weekday != 4 {
			continue
		}
		for n := max(w.n-3, firstDay); n <= min(w.n+3, lastDay); n++ {
			if got := weeksOf(t, n); got.year != w.year || got.week != w.thursdays {
				t.Fatalf("Weeks(%d) answers %v, want the year %d and the week %d", n, got, w.year, w.thursdays)
			}
		}
	}
}

func TestWeeksAsGo(t *testing.T) {
	r := rand.New(rand.NewSource(114))
	for range 100000 {
		n := firstDay + r.Intn(lastDay-firstDay+1)
		year, week := time.Unix(int64(n)*daySeconds, 0).UTC().ISOWeek()
		if got := weeksOf(t, n); got.year != year || got.week != week {
			t.Fatalf("Weeks(%d) answers %v, want the year %d and the week %d", n, got, year, week)
		}
	}
}

func TestWeeksOfNoNumber(t *testing.T) {
	for _, n := range append([]int{firstDay - 1, lastDay + 1, firstDay - cycle, lastDay + cycle}, far...) {
		if year, week, a, b, code := calendar.Weeks(n); (weeks{year, week, a, b}) != (weeks{}) || code != api.ErrDate {
			t.Errorf("Weeks(%d) answers %d, %d, %d, %d and %d", n, year, week, a, b, code)
		}
	}
}
