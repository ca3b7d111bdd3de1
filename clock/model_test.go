package clock_test

import (
	"fmt"
	"regexp"
	"strconv"
	"strings"
	"time"

	"colander/api"
)

// The model: what Go's own calendar knows of a second, and texts read by its regular expressions, one directive at a time.

// moment is the time of a second since 1970.
func moment(sec int) time.Time {
	return time.Unix(int64(sec), 0).UTC()
}

// modelWriters answers what stands for each directive of a time.
func modelWriters() map[byte]func(t time.Time) string {
	in := func(layout string) func(time.Time) string {
		return func(t time.Time) string { return t.Format(layout) }
	}
	year := func(t time.Time) string { return strconv.Itoa(t.Year()) }
	all := map[byte]func(t time.Time) string{
		'a': in("Mon"), 'A': in("Monday"), 'b': in("Jan"), 'h': in("Jan"), 'B': in("January"),
		'm': in("01"), 'd': in("02"), 'H': in("15"), 'M': in("04"), 'S': in("05"), 'I': in("03"), 'j': in("002"), 'e': in("_2"),
		'p': in("PM"), 'P': in("pm"), 'R': in("15:04"), 'T': in("15:04:05"), 'X': in("15:04:05"), 'r': in("03:04:05 PM"), 'z': in("-0700"), 'Z': in("UTC"),
		'Y': year, 'y': yearInCentury, 'C': centuryOf,
		'k': func(t time.Time) string { return fmt.Sprintf("%2d", t.Hour()) },
		'l': func(t time.Time) string { return fmt.Sprintf("%2s", t.Format("3")) },
		'u': func(t time.Time) string { return strconv.Itoa((int(t.Weekday())+6)%7 + 1) },
		'w': func(t time.Time) string { return strconv.Itoa(int(t.Weekday())) },
		'U': func(t time.Time) string { return fmt.Sprintf("%02d", (t.YearDay()+6-int(t.Weekday()))/7) },
		'W': func(t time.Time) string { return fmt.Sprintf("%02d", (t.YearDay()+6-(int(t.Weekday())+6)%7)/7) },
		'V': func(t time.Time) string { _, week := t.ISOWeek(); return fmt.Sprintf("%02d", week) },
		'G': func(t time.Time) string { return year(thursdayOf(t)) },
		'g': func(t time.Time) string { return yearInCentury(thursdayOf(t)) },
		's': func(t time.Time) string { return strconv.FormatInt(t.Unix(), 10) },
		'D': func(t time.Time) string { return t.Format("01/02/") + yearInCentury(t) },
		'x': func(t time.Time) string { return t.Format("01/02/") + yearInCentury(t) },
		'F': func(t time.Time) string { return year(t) + t.Format("-01-02") },
		'c': func(t time.Time) string { return t.Format("Mon Jan _2 15:04:05 ") + year(t) },
		'n': func(time.Time) string { return "\n" },
		't': func(time.Time) string { return "\t" },
		'%': func(time.Time) string { return "%" },
	}
	return all
}

// centuryOf counts down to the century that has the year.
func centuryOf(t time.Time) string {
	n := 100
	for n*100 > t.Year() {
		n--
	}
	if n < 0 {
		return fmt.Sprintf("-%02d", -n)
	}
	return fmt.Sprintf("%02d", n)
}

func yearInCentury(t time.Time) string {
	return fmt.Sprintf("%02d", (t.Year()+10000)%100)
}

// thursdayOf is the Thursday of the same week, by whose year the week goes.
func thursdayOf(t time.Time) time.Time {
	for t.Weekday() != time.Monday {
		t = t.AddDate(0, 0, -1)
	}
	return t.AddDate(0, 0, 3)
}

// telling is a directive and what it was told.
type telling struct {
	sign byte
	n    int
}

// pattern is what a directive reads: its group is what is told, a number from least to most, or one of names.
type pattern struct {
	text        *regexp.Regexp
	least, most int
	names       string
}

var modelForms = map[byte]string{
	'D': "%m/%d/%y", 'x': "%m/%d/%y", 'F': "%Y-%m-%d", 'R': "%H:%M", 'T': "%H:%M:%S", 'X': "%H:%M:%S",
	'r': "%I:%M:%S %p", 'c': "%a %b %e %H:%M:%S %Y",
}

var modelPatterns = makePatterns()

func makePatterns() map[byte]pattern {
	const blanks = "^[\t\n\v\f\r ]*"
	all := map[byte]pattern{}
	for _, row := range strings.Split(
		"Y 4 0 9999|C 2 0 99|y 2 0 99|m 2 1 12|d 2 1 31|e 2 1 31|H 2 0 23|k 2 0 23|I 2 1 12|l 2 1 12|M 2 0 59|S 2 0 60|j 3 1 366|"+
			"U 2 0 53|W 2 0 53|V 2 0 53|u 1 0 7|w 1 0 7|G 4 0 9999|g 2 0 99", "|") {
		f := strings.Fields(row)
		p := pattern{text: regexp.MustCompile(blanks + "([0-9]{1," + f[1] + "})")}
		p.least, _ = strconv.Atoi(f[2])
		p.most, _ = strconv.Atoi(f[3])
		all[f[0][0]] = p
	}
	all['s'] = pattern{text: regexp.MustCompile("^(-?[0-9]{1,12})"), least: -377705116800, most: 253402300799}
	all['n'] = pattern{text: regexp.MustCompile(blanks)}
	all['t'] = all['n']
	all['%'] = pattern{text: regexp.MustCompile("^%")}
	all['Z'] = pattern{text: regexp.MustCompile("^[A-Za-z]*")}
	all['z'] = pattern{text: regexp.MustCompile(blanks + "(?:Z|[+-][0-9][0-9]:?[0-9][0-9])")}
	for signs, names := range map[string]string{
		"aA": "sunday|monday|tuesday|wednesday|thursday|friday|saturday|sun|mon|tue|wed|thu|fri|sat",
		"bhB": "january|february|march|april|may|june|july|august|september|october|november|december|" +
			"jan|feb|mar|apr|may|jun|jul|aug|sep|oct|nov|dec",
		"pP": "am|pm",
	} {
		for _, sign := range []byte(signs) {
			all[sign] = pattern{text: regexp.MustCompile("^((?i:" + names + "))"), names: names}
		}
	}
	return all
}

// modelParse answers what Parse does.
func modelParse(s, format string) (api.Time, api.Errno) {
	told, left, ok := modelRead(nil, s, format)
	if !ok || strings.Trim(left, "\t\n\v\f\r ") != "" {
		return api.Time{}, api.ErrDate
	}
	t, ok := modelTime(told)
	if !ok || t.Year() < -9999 || t.Year() > 9999 {
		return api.Time{}, api.ErrDate
	}
	return api.Time{
		Year: t.Year(), Month: int(t.Month()) - 1, Day: t.Day(), Hour: t.Hour(), Min: t.Minute(), Sec: float64(t.Second()),
		Wday: int(t.Weekday()), Yday: t.YearDay() - 1,
	}, api.OK
}

// modelRead reads a format: what has been told in the end, and what is left of the text.
func modelRead(told []telling, s, format string) ([]telling, string, bool) {
	if format == "" {
		return told, s, true
	}
	sign, rest := format[0], format[1:]
	switch {
	case strings.IndexByte("\t\n\v\f\r ", sign) >= 0:
		return modelRead(told, strings.TrimLeft(s, "\t\n\v\f\r "), rest)
	case sign != '%':
		if s == "" || s[0] != sign {
			return nil, "", false
		}
		return modelRead(told, s[1:], rest)
	case rest == "":
		return nil, "", false
	}
	if form, ok := modelForms[rest[0]]; ok {
		return modelRead(told, s, form+rest[1:])
	}
	p, ok := modelPatterns[rest[0]]
	if !ok {
		return nil, "", false
	}
	m := p.text.FindStringSubmatchIndex(s)
	if m == nil {
		return nil, "", false
	}
	if len(m) > 2 {
		n, err := strconv.Atoi(s[m[2]:m[3]])
		if p.names != "" {
			n, err = modelName(p.names, s[m[2]:m[3]]), nil
		} else if err != nil || n < p.least || n > p.most {
			return nil, "", false
		}
		told = append(told, telling{rest[0], n})
	}
	return modelRead(told, s[m[1]:], rest[1:])
}

// modelName answers the number of a name: whole ones come first, and short ones behind them in the same order.
func modelName(names, name string) int {
	list := strings.Split(names, "|")
	for n := range list {
		if list[n] == strings.ToLower(name) {
			return n % map[int]int{14: 7, 24: 12, 2: 2}[len(list)]
		}
	}
	panic(name)
}

// lastOf answers what one of the directives was told last, and when; -1 tells that none of them was told anything.
func lastOf(told []telling, signs string) (n, when int) {
	for when = len(told) - 1; when >= 0; when-- {
		if strings.IndexByte(signs, told[when].sign) >= 0 {
			return told[when].n, when
		}
	}
	return 0, -1
}

// modelTime answers the time that has been told, and whether there is one.
func modelTime(told []telling) (time.Time, bool) {
	if n, when := lastOf(told, "s"); when >= 0 {
		return moment(n), true
	}
	month, monthWhen := lastOf(told, "mbhB")
	if monthWhen < 0 {
		month = 1
	} else if told[monthWhen].sign != 'm' {
		month++
	}
	day, dayWhen := lastOf(told, "de")
	if dayWhen < 0 {
		day = 1
	}
	year := modelYear(told)
	date := time.Date(year, time.Month(month), day, 0, 0, 0, 0, time.UTC)
	if int(date.Month()) != month {
		return date, false
	}
	if n, when := lastOf(told, "j"); when >= 0 && monthWhen < 0 && dayWhen < 0 {
		date = time.Date(year, 1, n, 0, 0, 0, 0, time.UTC)
	}
	minute, _ := lastOf(told, "M")
	second, _ := lastOf(told, "S")
	sum := (modelHour(told)*60+minute)*60 + second
	return date.Add(time.Duration(sum) * time.Second), date.Year() == year
}

func modelYear(told []telling) int {
	year, yearWhen := lastOf(told, "Y")
	century, centuryWhen := lastOf(told, "C")
	short, shortWhen := lastOf(told, "y")
	if _, when := lastOf(told, "YCy"); when < 0 {
		return 1900
	} else if when == yearWhen {
		return year
	}
	if centuryWhen < 0 && short < 69 {
		return 2000 + short
	}
	if centuryWhen < 0 {
		return 1900 + short
	}
	if shortWhen < 0 {
		return century * 100
	}
	return century*100 + short
}

func modelHour(told []telling) int {
	hour, _ := lastOf(told, "HkIl")
	if _, when := lastOf(told, "HkIl"); when < 0 || told[when].sign == 'H' || told[when].sign == 'k' {
		return hour
	}
	if half, _ := lastOf(told, "pP"); half == 1 {
		return []int{12, 13, 14, 15, 16, 17, 18, 19, 20, 21, 22, 23, 12}[hour]
	}
	return []int{0, 1, 2, 3, 4, 5, 6, 7, 8, 9, 10, 11, 0}[hour]
}
