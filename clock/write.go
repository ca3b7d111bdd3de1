package clock

import (
	"math"
	"strconv"
	"strings"

	"colander/api"
	"colander/calendar"
)

// moment is a time that is written: seconds are those since 1970, and weeks are counted in three ways.
type moment struct {
	api.Time
	seconds                int
	isoYear, isoWeek       int
	fromSunday, fromMonday int
}

// momentOf answers a time as a moment, without its seconds' fraction; its own Wday and Yday are not looked at.
func momentOf(t api.Time) (moment, error) {
	seconds, code := calendar.Join(t)
	if code != api.OK {
		return moment{}, errRefused
	}
	m := moment{seconds: seconds}
	m.Time, _ = calendar.Split(float64(seconds))
	t.Sec, t.Wday, t.Yday = math.Floor(t.Sec), m.Wday, m.Yday
	if t != m.Time {
		return moment{}, errRefused
	}
	n, _ := calendar.Day(t.Year, t.Month, t.Day)
	m.isoYear, m.isoWeek, m.fromSunday, m.fromMonday, _ = calendar.Weeks(n)
	return m, nil
}

// writer writes what stands for a directive.
type writer func(m moment) string

// written answers a format with its directives replaced.
func (m moment) written(format string, directives map[byte]writer) string {
	var out strings.Builder
	for i := 0; i < len(format); i++ {
		if format[i] == '%' && i+1 < len(format) {
			if write, ok := directives[format[i+1]]; ok {
				out.WriteString(write(m))
				i++
				continue
			}
		}
		out.WriteByte(format[i])
	}
	return out.String()
}

// writers answers what each directive writes.
func writers() map[byte]writer {
	days, names := weekdays(), months()
	all := map[byte]writer{
		'a': func(m moment) string { return short(days[m.Wday]) },
		'A': func(m moment) string { return days[m.Wday] },
		'b': func(m moment) string { return short(names[m.Month]) },
		'h': func(m moment) string { return short(names[m.Month]) },
		'B': func(m moment) string { return names[m.Month] },
		'p': func(m moment) string { return half(m, "AM", "PM") },
		'P': func(m moment) string { return half(m, "am", "pm") },
		'n': always("\n"),
		't': always("\t"),
		'%': always("%"),
		'z': always("+0000"),
		'Z': always("UTC"),
	}
	addNumbers(all)
	addForms(all, func(format string) writer {
		return func(m moment) string { return m.written(format, all) }
	})
	return all
}

// addNumbers adds the directives that write numbers to others.
func addNumbers(all map[byte]writer) {
	day := func(m moment) int { return m.Day }
	hour := func(m moment) int { return m.Hour }
	twelfth := func(m moment) int { return (m.Hour+11)%12 + 1 }

	all['Y'] = padded(1, "0", func(m moment) int { return m.Year })
	all['C'] = padded(2, "0", func(m moment) int { return hundreds(m.Year) })
	all['y'] = padded(2, "0", func(m moment) int { return m.Year - 100*hundreds(m.Year) })
	all['m'] = padded(2, "0", func(m moment) int { return m.Month + 1 })
	all['d'] = padded(2, "0", day)
	all['e'] = padded(2, " ", day)
	all['H'] = padded(2, "0", hour)
	all['k'] = padded(2, " ", hour)
	all['I'] = padded(2, "0", twelfth)
	all['l'] = padded(2, " ", twelfth)
	all['M'] = padded(2, "0", func(m moment) int { return m.Min })
	all['S'] = padded(2, "0", func(m moment) int { return int(m.Sec) })
	all['j'] = padded(3, "0", func(m moment) int { return m.Yday + 1 })
	all['u'] = padded(1, "0", func(m moment) int { return (m.Wday+6)%7 + 1 })
	all['w'] = padded(1, "0", func(m moment) int { return m.Wday })
	all['U'] = padded(2, "0", func(m moment) int { return m.fromSunday })
	all['W'] = padded(2, "0", func(m moment) int { return m.fromMonday })
	all['V'] = padded(2, "0", func(m moment) int { return m.isoWeek })
	all['G'] = padded(1, "0", func(m moment) int { return m.isoYear })
	all['g'] = padded(2, "0", func(m moment) int { return m.isoYear - 100*hundreds(m.isoYear) })
	all['s'] = padded(1, "0", func(m moment) int { return m.seconds })
}

// padded writes a number of a moment with at least so many digits, and what fills them up ahead of it.
func padded(digits int, fill string, of func(m moment) int) writer {
	return func(m moment) string {
		sign, n := "", of(m)
		if n < 0 {
			sign, n = "-", -n
		}
		text := strconv.Itoa(n)
		return sign + strings.Repeat(fill, max(0, digits-len(text))) + text
	}
}

// always writes the same text of all moments.
func always(text string) writer {
	return func(moment) string { return text }
}

// half answers how the half of the day is told that has a moment.
func half(m moment, am, pm string) string {
	if m.Hour < 12 {
		return am
	}
	return pm
}

// hundreds answers a year by 100, downwards.
func hundreds(year int) int {
	if year < 0 {
		return (year - 99) / 100
	}
	return year / 100
}
