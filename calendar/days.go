package calendar

import "colander/api"

const (
	firstYear  = -9999
	lastYear   = 9999
	firstDay   = -4371587 // the first of January -9999
	lastDay    = 2932896  // the last of December 9999
	daySeconds = 86400
	farthest   = 1000000000 // what a field of a time may be that is joined
)

// The days of the week by their numbers.
const (
	sunday   = 0
	monday   = 1
	thursday = 4
)

// isDay tells whether a day has a number n.
func isDay(n int) bool {
	return n >= firstDay && n <= lastDay
}

// isSecond tells whether a second, of whole ones, is on a day that has a number.
func isSecond(sec float64) bool {
	return sec >= firstDay*daySeconds && sec < (lastDay+1)*daySeconds
}

// isNear tells whether no field of a time is too far away for its seconds to be reckoned with.
func isNear(t api.Time) bool {
	for _, n := range [...]int{t.Year, t.Month, t.Day, t.Hour, t.Min} {
		if n < -farthest || n > farthest {
			return false
		}
	}
	return t.Sec >= -farthest && t.Sec <= farthest
}

// yearBegin answers the number of a year's first day.
func yearBegin(year int) int {
	const begin = -719162 // the number of year 1's first day
	ahead := year - 1
	fours, _ := divided(ahead, 4)
	hundreds, _ := divided(ahead, 100)
	cycles, _ := divided(ahead, 400)
	return begin + 365*ahead + fours - hundreds + cycles
}

// yearOf answers the year that has a day.
func yearOf(n int) int {
	cycles, _ := divided(400*n, 146097)
	// All years taken as equally long, that is the year, or one of its neighbours.
	year := 1970 + cycles
	for n < yearBegin(year) {
		year--
	}
	for n >= yearBegin(year+1) {
		year++
	}
	return year
}

// yearDay tells how many days of its year are ahead of a day.
func yearDay(n int) int {
	return n - yearBegin(yearOf(n))
}

// weekday answers the day of the week, from 0 of Sunday on.
func weekday(n int) int {
	_, day := divided(n+thursday, 7)
	return day
}

// since tells how many days ago a day of the week was, 0 on that day.
func since(n, day int) int {
	_, ago := divided(weekday(n)-day, 7)
	return ago
}

// weeksBegun tells how many weeks that begin with a day of the week have begun in n's year, up to n.
func weeksBegun(n, day int) int {
	begin := yearDay(n) - since(n, day)
	weeks, _ := divided(begin, 7)
	return weeks + 1
}

// divided answers a by b, downwards, and what that leaves.
func divided(a, b int) (by, rest int) {
	by, rest = a/b, a%b
	if rest < 0 {
		return by - 1, rest + b
	}
	return by, rest
}
