package calendar_test

import "iter"

// The first and the last day that has a number, the length of a day, and how many days 400 years have.
const (
	firstDay   = -4371587
	lastDay    = 2932896
	daySeconds = 86400
	cycle      = 146097
)

// walked is a day as it is met by walking from day to day.
type walked struct {
	n, year, month, day int
	weekday, yearDay    int
	sundays, mondays    int // so many of its year's have come
	thursdays           int
}

// walk goes from one day to the next, from the first of January -9999 on for so many years. It knows how long a year is, and that its beginning is a Monday: the first Thursday of 1970 is not reckoned with, but met.
func walk(years int) iter.Seq[walked] {
	return func(yield func(walked) bool) {
		w := walked{n: firstDay, weekday: 1}
		for w.year = -9999; w.year < years-9999; w.year++ {
			w.yearDay, w.sundays, w.mondays, w.thursdays = 0, 0, 0, 0
			for w.month = range 12 {
				for w.day = 1; w.day <= lengthOf(w.year, w.month); w.day++ {
					w.countWeekday()
					if !yield(w) {
						return
					}
					w.n++
					w.yearDay++
					w.weekday = (w.weekday + 1) % 7
				}
			}
		}
	}
}

func (w *walked) countWeekday() {
	switch w.weekday {
	case 0:
		w.sundays++
	case 1:
		w.mondays++
	case 4:
		w.thursdays++
	}
}

// lengthOf is the length of a month, as a saying has it.
func lengthOf(year, month int) int {
	switch month {
	case 3, 5, 8, 10:
		return 30
	case 1:
		if isLeap(year) {
			return 29
		}
		return 28
	}
	return 31
}

// isLeap tells it by the digits of the year alone, which are the same with a sign ahead.
func isLeap(year int) bool {
	if year < 0 {
		year = -year
	}
	if hundreds, rest := year/100, year%100; rest == 0 {
		return hundreds&3 == 0
	}
	return year&3 == 0
}
