package clock

import (
	"colander/api"
	"colander/calendar"
)

// part is what a text tells of a time.
type part int

const (
	nothing part = iota
	year
	century
	yearOfCentury
	month // from 1 on
	day
	dayOfYear // from 1 on
	hour
	hourOfHalf
	halfOfDay
	minute
	second
	seconds // all of the time
	parts   // how many parts there are
)

// afternoon is the later halfOfDay.
const afternoon = 2

// facts are what a text told of each part, last.
type facts [parts]fact

// fact is a number that was told, and its turn among all that were, from 1 on: with 0 there is none.
type fact struct{ n, turn int }

// or answers what was told, or else n.
func (f fact) or(n int) int {
	if f.turn == 0 {
		return n
	}
	return f.n
}

// time answers the time that was told, unless there is none.
func (f *facts) time() (api.Time, error) {
	if f[seconds].turn > 0 {
		t, _ := calendar.Split(float64(f[seconds].n))
		return t, nil
	}
	t, err := f.date()
	if err != nil {
		return api.Time{}, err
	}
	t.Hour, t.Min, t.Sec = f.hour(), f[minute].n, float64(f[second].n)
	sec, code := calendar.Join(t)
	if code != api.OK {
		return api.Time{}, errRefused
	}
	t, _ = calendar.Split(float64(sec))
	return t, nil
}

// date answers the beginning of the day that was told, unless there is none.
func (f *facts) date() (api.Time, error) {
	t := api.Time{Year: f.year(), Month: f[month].or(1) - 1, Day: f[day].or(1)}
	first, code := calendar.Day(t.Year, t.Month, t.Day)
	if code != api.OK {
		return api.Time{}, errRefused
	}
	if f[month].turn > 0 || f[day].turn > 0 || f[dayOfYear].turn == 0 {
		return t, nil
	}
	y, m, d, code := calendar.Date(first + f[dayOfYear].n - 1)
	if code != api.OK || y != t.Year {
		return api.Time{}, errRefused
	}
	return api.Time{Year: y, Month: m, Day: d}, nil
}

// year answers the year that was told, as a whole or as one of a century: 1900, if nothing told it.
func (f *facts) year() int {
	if f[year].turn > max(f[century].turn, f[yearOfCentury].turn) {
		return f[year].n
	}
	usual := 19
	if f[yearOfCentury].turn > 0 && f[yearOfCentury].n < 69 {
		usual = 20
	}
	return f[century].or(usual)*100 + f[yearOfCentury].n
}

// hour answers the hour that was told, of the day or of a half of it.
func (f *facts) hour() int {
	if f[hour].turn >= f[hourOfHalf].turn {
		return f[hour].n
	}
	n := f[hourOfHalf].n % 12
	if f[halfOfDay].n == afternoon {
		n += 12
	}
	return n
}
