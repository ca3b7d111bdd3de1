package clock_test

import (
	"math/rand"
	"strconv"
	"strings"
	"testing"
	"time"

	"colander/api"
	"colander/calendar"
	"colander/clock"
)

// P12.2

// checkParse holds what is parsed to a time whose Wday and Yday are not told.
func checkParse(t *testing.T, s, format string, want api.Time) {
	t.Helper()
	sec, _ := calendar.Join(want)
	want, _ = calendar.Split(float64(sec))
	if got, code := clock.Parse(s, format); got != want || code != api.OK {
		t.Errorf("Parse(%q, %q) answers %v and %d, want %v", s, format, got, code, want)
	}
}

func checkRefused(t *testing.T, s, format string) {
	t.Helper()
	if got, code := clock.Parse(s, format); got != (api.Time{}) || code != api.ErrDate {
		t.Errorf("Parse(%q, %q) answers %v and %d", s, format, got, code)
	}
}

// usual is the time of which nothing is told.
var usual = at(1900, 0, 1, 0, 0, 0)

func TestParseOfTheChapter(t *testing.T) {
	got, code := clock.Parse("2015-03-05T23:51:47Z", "%Y-%m-%dT%H:%M:%SZ")
	want := march
	want.Wday, want.Yday = 4, 63
	if got != want || code != api.OK {
		t.Error(got, code)
	}
	checkParse(t, "10:5 pm", "%I:%M %p", at(1900, 0, 1, 22, 5, 0))
	checkParse(t, "2015 31", "%Y %j", at(2015, 0, 31, 0, 0, 0))
	checkRefused(t, "2015-02-30", "%F")
}

// numbers are the directives that read a number: digits, the least and the greatest one, and what one of them, n, tells.
var numbers = []struct {
	signs               string
	digits, least, most int
	tells               func(n int) api.Time
}{
	{"Y", 4, 0, 9999, func(n int) api.Time { return at(n, 0, 1, 0, 0, 0) }},
	{"C", 2, 0, 99, func(n int) api.Time { return at(n*100, 0, 1, 0, 0, 0) }},
	{"y", 2, 0, 99, func(n int) api.Time {
		if n < 69 {
			n += 100
		}
		return at(1900+n, 0, 1, 0, 0, 0)
	}},
	{"m", 2, 1, 12, func(n int) api.Time { return at(1900, n-1, 1, 0, 0, 0) }},
	{"de", 2, 1, 31, func(n int) api.Time { return at(1900, 0, n, 0, 0, 0) }},
	{"Hk", 2, 0, 23, func(n int) api.Time { return at(1900, 0, 1, n, 0, 0) }},
	{"Il", 2, 1, 12, func(n int) api.Time { return at(1900, 0, 1, n%12, 0, 0) }},
	{"M", 2, 0, 59, func(n int) api.Time { return at(1900, 0, 1, 0, n, 0) }},
	{"S", 2, 0, 60, func(n int) api.Time { return at(1900, 0, 1, 0, n/60, float64(n%60)) }},
	{"j", 3, 1, 366, func(n int) api.Time { return at(1900, 0, n, 0, 0, 0) }},
	{"UWV", 2, 0, 53, func(int) api.Time { return usual }},
	{"uw", 1, 0, 7, func(int) api.Time { return usual }},
	{"G", 4, 0, 9999, func(int) api.Time { return usual }},
	{"g", 2, 0, 99, func(int) api.Time { return usual }},
}

// TestParseOfNumbers walks all numbers of so many digits, with and without noughts and blanks ahead.
func TestParseOfNumbers(t *testing.T) {
	for _, row := range numbers {
		for i := range len(row.signs) {
			format := "%" + row.signs[i:i+1]
			for n := range power(row.digits) {
				text := strconv.Itoa(n)
				full := strings.Repeat("0", row.digits-len(text)) + text
				for _, s := range []string{text, full, " " + text, "\t\n\v\f\r  " + full + " \t"} {
					if n < row.least || n > row.most || row.signs == "j" && n == 366 {
						checkRefused(t, s, format)
					} else {
						checkParse(t, s, format, row.tells(n))
					}
				}
			}
			checkParse(t, "2000 366", "%Y %j", at(2000, 11, 31, 0, 0, 0))
		}
	}
}

func power(digits int) int {
	n := 1
	for range digits {
		n *= 10
	}
	return n
}

// TestParseOfDigits: as many digits are read as stand there, but not more than so many.
func TestParseOfDigits(t *testing.T) {
	for _, row := range numbers {
		format := "%" + row.signs[:1]
		one := strings.Repeat("0", row.digits-1) + "1"
		checkParse(t, one+"1", format+"1", row.tells(1))
		checkParse(t, one+"9x", format+"9x", row.tells(1))
		for _, s := range []string{"", " ", "-1", "+1", "x", "x1", "--", one + "1", one + "0", "1x", ".1", "1.", "1e0", "\x001", "0x1", "１", "١", "\u00a01", "%"} {
			checkRefused(t, s, format)
		}
		checkRefused(t, one, format+"1") // the digit has been read
	}
	checkParse(t, "20150305235147", "%Y%m%d%H%M%S", march)
	checkParse(t, "2015 3 5 23 51 47", "%Y%m%d%H%M%S", march)
	checkParse(t, "1503", "%y%m", at(2015, 2, 1, 0, 0, 0))
	checkRefused(t, "153", "%m%d")
}

func TestParseOfBlanks(t *testing.T) {
	for _, format := range []string{" ", "\t", "\n", "\v", "\f", "\r", "%n", "%t", "  ", " %n%t \n"} {
		for _, s := range []string{"", " ", "\t", "\n", "\v", "\f", "\r", " \t\n\v\f\r "} {
			checkParse(t, s, format, usual)
			checkParse(t, "a"+s+"b", "a"+format+"b", usual)
			checkParse(t, "05"+s+"6", "%H"+format+"%M", at(1900, 0, 1, 5, 6, 0))
		}
		for _, s := range []string{"x", "\x00", "\b", "\x0e", "\x1f", "!", "\u00a0", "\u0085", "\u2003"} {
			checkRefused(t, s, format)
			checkRefused(t, "a"+s+"b", "a"+format+"b")
		}
	}
}

// TestParseOfWhatIsLeft: behind the format only blanks may be left.
func TestParseOfWhatIsLeft(t *testing.T) {
	checkParse(t, "", "", usual)
	checkParse(t, " \t\n\v\f\r", "", usual)
	checkParse(t, "5 \t\n\v\f\r ", "%H", at(1900, 0, 1, 5, 0, 0))
	for _, s := range []string{"x", " x", "5", "\x00", " \x0e", "\u00a0", "%"} {
		checkRefused(t, s, "")
		checkRefused(t, "5"+s+"x", "%H")
		checkRefused(t, "12"+s, "%H")
	}
}

// TestParseOfBytes: all bytes of a format but blanks and % are themselves.
func TestParseOfBytes(t *testing.T) {
	for c := range 256 {
		sign := string([]byte{byte(c)})
		if strings.Contains("\t\n\v\f\r %", sign) {
			continue
		}
		checkParse(t, sign, sign, usual)
		checkParse(t, "x"+sign+"x", "x"+sign+"x", usual)
		for _, other := range []string{"", " ", "%", " " + sign, string([]byte{byte(c ^ 32)}), string([]byte{byte(c) + 1})} {
			if strings.Trim(other, "\t\n\v\f\r ") == "" || other != sign {
				checkRefused(t, other, sign)
			}
		}
	}
	checkParse(t, "é€𝄞", "é€𝄞", usual)
	checkRefused(t, "e", "E")
	checkRefused(t, "ab", "abc")
	checkRefused(t, "abc", "ab")
}

func TestParseOfPercent(t *testing.T) {
	checkParse(t, "%", "%%", usual)
	checkParse(t, "%d5%", "%%d%d%%", at(1900, 0, 5, 0, 0, 0))
	for _, s := range []string{"", "%%", " %", "x", "25"} {
		checkRefused(t, s, "%%")
	}
}

// TestParseOfNoDirectives: no other byte may stand behind a %.
func TestParseOfNoDirectives(t *testing.T) {
	const directives = "aAbhBYCymdHMSIjeklpPuwUWVGgsDxFRTXrcnt%zZ"
	for c := range 256 {
		sign := "%" + string([]byte{byte(c)})
		if strings.Contains(directives, sign[1:]) {
			continue
		}
		for _, s := range []string{"", sign, "1", "%", sign[1:], " "} {
			checkRefused(t, s, sign)
			checkRefused(t, "5"+s, "%H"+sign)
			checkRefused(t, s+"5", sign+"%H")
		}
	}
	for _, s := range []string{"", "%", " ", "5"} {
		checkRefused(t, s, "%")
		checkRefused(t, s, "%%%")
		checkRefused(t, s, "%H%")
	}
}

func TestParseOfWeekdays(t *testing.T) {
	for _, name := range strings.Fields("Sunday Monday Tuesday Wednesday Thursday Friday Saturday") {
		for _, format := range []string{"%a", "%A"} {
			for _, s := range cases(name) {
				checkParse(t, s, format, usual)
				checkParse(t, s[:3], format, usual)
				checkParse(t, s+"day", format+"day", usual)
				checkParse(t, s[:3]+s, format+format, usual)
				checkParse(t, s+" 5", format+"%H", at(1900, 0, 1, 5, 0, 0))
				for n := 4; n < len(s); n++ {
					checkRefused(t, s[:n], format)
					checkParse(t, s[:n], format+s[3:n], usual) // the short name stands there
				}
				checkRefused(t, s, format+s[3:]) // the whole name has been read
				for _, other := range []string{s[:2], s + "s", s[1:], " " + s, "x" + s, s[:3] + "x", s[:2] + " " + s[2:]} {
					checkRefused(t, other, format)
				}
			}
		}
	}
	for _, s := range []string{"", "x", "0", "Jan", "January", "ſunday", "So", "Mo", "s\x75\xae", "\x13un", "3un"} {
		checkRefused(t, s, "%a")
		checkRefused(t, s, "%A")
	}
}

// cases answers a name in letters of either case.
func cases(name string) []string {
	return []string{name, strings.ToLower(name), strings.ToUpper(name), strings.ToLower(name[:1]) + strings.ToUpper(name[1:]), name[:2] + strings.ToUpper(name[2:])}
}

func TestParseOfMonths(t *testing.T) {
	for n, name := range strings.Fields("January February March April May June July August September October November December") {
		want := at(1900, n, 1, 0, 0, 0)
		for _, format := range []string{"%b", "%h", "%B"} {
			for _, s := range cases(name) {
				checkParse(t, s, format, want)
				checkParse(t, s[:3], format, want)
				checkParse(t, s+s[:3], format+format, want)
				for n := 4; n < len(s); n++ {
					checkRefused(t, s[:n], format)
					checkParse(t, s[:n], format+s[3:n], want)
				}
				for _, other := range []string{s[:2], s + "s", s[1:], " " + s, s[:3] + "x"} {
					checkRefused(t, other, format)
				}
			}
		}
	}
	for _, s := range []string{"", "x", "1", "01", "Sun", "Sunday", "Mär", "Juſ", "sept"} {
		checkRefused(t, s, "%b")
		checkRefused(t, s, "%h")
		checkRefused(t, s, "%B")
	}
}

func TestParseOfHalves(t *testing.T) {
	for _, format := range []string{"%p", "%P"} {
		for _, s := range []string{"am", "AM", "Am", "aM"} {
			checkParse(t, s, format, usual)
			checkParse(t, "5"+s, "%I"+format, at(1900, 0, 1, 5, 0, 0))
			checkParse(t, "12"+s, "%I"+format, usual)
		}
		for _, s := range []string{"pm", "PM", "Pm", "pM"} {
			checkParse(t, s, format, usual)
			checkParse(t, "5"+s, "%I"+format, at(1900, 0, 1, 17, 0, 0))
			checkParse(t, "12"+s, "%I"+format, at(1900, 0, 1, 12, 0, 0))
		}
		for _, s := range []string{"", "a", "p", "m", "xm", " am", "amx", "a.m.", "noon", "p m"} {
			checkRefused(t, s, format)
		}
	}
}

func TestParseOfZones(t *testing.T) {
	for _, s := range []string{"", "Z", "UTC", "utc", "CEST", "abcxyzABCXYZ", strings.Repeat("z", 1000)} {
		checkParse(t, s, "%Z", usual)
		checkParse(t, s+"5", "%Z%H", at(1900, 0, 1, 5, 0, 0))
	}
	for _, s := range []string{"+01", "5", "U1", "UTC+1", "[", "`", "@", "{", "é", "_", " UTC"} {
		checkRefused(t, s, "%Z")
	}
	checkRefused(t, "UTC", "%ZC") // all letters have been read
	for _, s := range []string{"Z", "+0000", "-0000", "+01:30", "-12:00", "+9999", "-99:99", " Z", "\t\n\v\f\r +0130"} {
		checkParse(t, s, "%z", usual)
		checkParse(t, s+"5", "%z%H", at(1900, 0, 1, 5, 0, 0))
		checkParse(t, "5"+s, "%H%z", at(1900, 0, 1, 5, 0, 0))
	}
	for _, s := range []string{"", " ", "z", "UTC", "+", "-", "+1", "+01", "+01:", "+013", "+01:3", "+1:30", "+01::30", "+01 30", "0130", "+ 0130", "+-0130", "+01300", "+01:300", "+x130", "+0x30", "+01x0", "+013x", "ZZ", ":0130", "+:0130"} {
		checkRefused(t, s, "%z")
	}
}

func TestParseOfSeconds(t *testing.T) {
	checkParse(t, "0", "%s", at(1970, 0, 1, 0, 0, 0))
	checkParse(t, "-0", "%s", at(1970, 0, 1, 0, 0, 0))
	checkParse(t, "-1", "%s", at(1969, 11, 31, 23, 59, 59))
	checkParse(t, "000000000001", "%s", at(1970, 0, 1, 0, 0, 1))
	checkParse(t, "-000000000001", "%s", at(1969, 11, 31, 23, 59, 59))
	checkParse(t, "1425599507", "%s", march)
	checkParse(t, "1425599507 \t", "%s", march)
	checkParse(t, "0014255995075", "%s%H", march) // the thirteenth digit is the hour's
	checkParse(t, "253402300799", "%s", at(9999, 11, 31, 23, 59, 59))
	checkParse(t, "-377705116800", "%s", at(-9999, 0, 1, 0, 0, 0))
	for _, s := range []string{"", " ", "-", "+1", "--1", "- 1", "x", "1.5", "1e3", "0000000000001", "253402300800", "999999999999", "-377705116801", "-999999999999", " 1", "\t1", "-\t1"} {
		checkRefused(t, s, "%s")
	}
	checkParse(t, " 1", " %s", at(1970, 0, 1, 0, 0, 1))
}

// TestParseOfSecondsAmongOthers: the last seconds tell all of the time, but what does not go on is refused.
func TestParseOfSecondsAmongOthers(t *testing.T) {
	checkParse(t, "5 2015", "%s %Y", at(1970, 0, 1, 0, 0, 5))
	checkParse(t, "2015 5", "%Y %s", at(1970, 0, 1, 0, 0, 5))
	checkParse(t, "5 7", "%s %s", at(1970, 0, 1, 0, 0, 7))
	checkParse(t, "5 7 23:59:60", "%s %s %T", at(1970, 0, 1, 0, 0, 7))
	checkParse(t, "2015-02-30 5", "%F %s", at(1970, 0, 1, 0, 0, 5)) // no such day is asked for
	checkParse(t, "5 2015 366", "%s %Y %j", at(1970, 0, 1, 0, 0, 5))
	checkParse(t, "0 2015-03-05", "%s %F", at(1970, 0, 1, 0, 0, 0))
	checkRefused(t, "999999999999 5", "%s %s")
	checkRefused(t, "5 13", "%s %m")
	checkRefused(t, "5 x", "%s %m")
	checkRefused(t, "5", "%s %m")
}

func TestParseOfFormats(t *testing.T) {
	checkParse(t, "03/05/15", "%D", at(2015, 2, 5, 0, 0, 0))
	checkParse(t, "3/5/69", "%x", at(1969, 2, 5, 0, 0, 0))
	checkParse(t, "2015-03-05", "%F", at(2015, 2, 5, 0, 0, 0))
	checkParse(t, "23:51", "%R", at(1900, 0, 1, 23, 51, 0))
	checkParse(t, "23:51:47", "%T", at(1900, 0, 1, 23, 51, 47))
	checkParse(t, "23: 51:\t47", "%X", at(1900, 0, 1, 23, 51, 47))
	checkParse(t, "11:51:47 pm", "%r", at(1900, 0, 1, 23, 51, 47))
	checkParse(t, "11:51:47am", "%r", at(1900, 0, 1, 11, 51, 47))
	checkParse(t, "Thu Mar  5 23:51:47 2015", "%c", march)
	checkParse(t, "MONDAYmarch5 23:51:47 2015 ", "%c", march)
	checkParse(t, "2015-03-05T23:51:47", "%FT%T", march)
	checkParse(t, "2015-03-05 2016-04-06", "%F %F", at(2016, 3, 6, 0, 0, 0))
	for format, list := range map[string]string{
		"%D": "03/05/2015|03/05|03-05-15|13/01/15|03/05 /15|", "%x": "03/05/2015|/05/15|", "%F": "15-3|2015/03/05|20150-3-5|-2015-03-05|",
		"%R": "24:00|23:60|23|23:51:47|23 :51|", "%T": "23:51|23:51:61|23:51:47:1|", "%X": "24:51:47|23.51.47|",
		"%r": "13:51:47 PM|0:51:47 PM|11:51:47|11:51 PM|", "%c": "Thu Mar 5 23:51:47|Mar 5 23:51:47 2015|Thu 5 Mar 23:51:47 2015|",
	} {
		for _, s := range strings.Split(list, "|") {
			checkRefused(t, s, format)
		}
	}
}

func TestParseOfYears(t *testing.T) {
	for _, row := range []struct {
		s, format string
		year      int
	}{
		{"68", "%y", 2068}, {"69", "%y", 1969}, {"0", "%y", 2000}, {"99", "%y", 1999},
		{"18", "%C", 1800}, {"0", "%C", 0}, {"18 15", "%C %y", 1815}, {"15 18", "%y %C", 1815}, {"0 5", "%C %y", 5}, {"99 99", "%C %y", 9999}, {"19 70", "%C %y", 1970},
		// Behind a year, and ahead of it.
		{"2015 16", "%Y %y", 2016}, {"16 2015", "%y %Y", 2015}, {"2015 70", "%Y %y", 1970},
		{"2015 18", "%Y %C", 1800}, {"18 2015", "%C %Y", 2015},
		{"18 2015 7", "%C %Y %y", 1807}, {"7 2015 18", "%y %Y %C", 1807}, {"18 7 2015", "%C %y %Y", 2015}, {"2015 18 7", "%Y %C %y", 1807},
		{"2015 7 2016", "%Y %y %Y", 2016}, {"7 2015 8", "%y %Y %y", 2008}, {"17 2015 18", "%C %Y %C", 1800},
		// What was told last counts.
		{"2015 2016", "%Y %Y", 2016}, {"15 16", "%y %y", 2016}, {"17 18", "%C %C", 1800}, {"70 5", "%y %y", 2005}, {"5 70", "%y %y", 1970},
		{"0", "%Y", 0}, {"9999", "%Y", 9999}, {"2015 0", "%Y %Y", 0}, {"2020 07", "%G %g", 1900},
	} {
		checkParse(t, row.s, row.format, at(row.year, 0, 1, 0, 0, 0))
	}
}

func TestParseOfDays(t *testing.T) {
	for _, row := range []struct {
		s, format  string
		month, day int
	}{
		{"3", "%m", 2, 1}, {"5", "%d", 0, 5}, {"3 4", "%m %m", 3, 1}, {"3 Apr", "%m %b", 3, 1}, {"Apr 3", "%B %m", 2, 1}, {"5 6", "%d %e", 0, 6}, {"5 6", "%e %d", 0, 6},
		{"32", "%j", 1, 1}, {"365", "%j", 11, 31}, {"1", "%j", 0, 1}, {"5 32", "%j %j", 1, 1},
		// The day of the year counts by itself alone.
		{"32 3", "%j %m", 2, 1}, {"3 32", "%m %j", 2, 1}, {"32 5", "%j %d", 0, 5}, {"5 32", "%d %j", 0, 5}, {"Mar 32", "%b %j", 2, 1}, {"366 3 5", "%j %m %d", 2, 5},
		{"366 5", "%j %e", 0, 5}, {"31 2 28", "%d %m %d", 1, 28},
	} {
		checkParse(t, row.s+" 2015", row.format+" %Y", at(2015, row.month, row.day, 0, 0, 0))
	}
	checkParse(t, "60 2016", "%j %Y", at(2016, 1, 29, 0, 0, 0))
	checkParse(t, "366 2016", "%j %Y", at(2016, 11, 31, 0, 0, 0))
	checkParse(t, "366 9996", "%j %Y", at(9996, 11, 31, 0, 0, 0))
	for _, s := range []string{"366 2015", "366 1900", "366 9999", "366 1"} {
		checkRefused(t, s, "%j %Y")
	}
}

// TestParseOfNoDays: there must be such a day.
func TestParseOfNoDays(t *testing.T) {
	lengths := []int{31, 28, 31, 30, 31, 30, 31, 31, 30, 31, 30, 31}
	for month, length := range lengths {
		for day := 1; day <= 31; day++ {
			s := strconv.Itoa(day) + "." + strconv.Itoa(month+1) + "."
			if day > length {
				checkRefused(t, s+"2015", "%d.%m.%Y")
				checkRefused(t, s+"1900", "%d.%m.%Y")
				checkRefused(t, s, "%d.%m.")
			} else {
				checkParse(t, s+"2015", "%d.%m.%Y", at(2015, month, day, 0, 0, 0))
			}
		}
	}
	checkParse(t, "2016-02-29", "%F", at(2016, 1, 29, 0, 0, 0))
	checkParse(t, "0-2-29", "%F", at(0, 1, 29, 0, 0, 0))
	checkRefused(t, "2016-02-30", "%F")
}

func TestParseOfHours(t *testing.T) {
	for _, row := range []struct {
		s, format string
		hour      int
	}{
		{"5", "%H", 5}, {"5", "%I", 5}, {"12", "%I", 0}, {"12", "%l", 0}, {"5 6", "%H %k", 6}, {"5 6", "%I %l", 6},
		// A half ahead of its hour, behind it, and once more.
		{"5 pm", "%I %p", 17}, {"pm 5", "%p %I", 17}, {"pm 5 am", "%p %I %p", 5}, {"am 5 pm", "%p %I %P", 17}, {"am pm 12", "%p %p %l", 12}, {"11 pm", "%l %P", 23},
		// The half says nothing of an hour of the day.
		{"5 pm", "%H %p", 5}, {"pm 5", "%p %k", 5}, {"pm", "%p", 0},
		// Of both hours the later one counts.
		{"5 6", "%H %I", 6}, {"6 5", "%I %H", 5}, {"5 6 pm", "%H %I %p", 18}, {"6 pm 5", "%I %p %H", 5}, {"6 5 pm", "%I %H %p", 5}, {"5 pm 6", "%H %p %I", 18},
		{"6 5 7", "%I %H %I", 7}, {"5 6 7", "%H %I %H", 7}, {"12 0", "%I %H", 0}, {"23 12", "%H %I", 0}, {"23 12 pm", "%k %l %p", 12},
	} {
		checkParse(t, row.s, row.format, at(1900, 0, 1, row.hour, 0, 0))
	}
}

func TestParseOfTheSixtiethSecond(t *testing.T) {
	checkParse(t, "2015-03-05 23:51:60", "%F %T", at(2015, 2, 5, 23, 52, 0))
	checkParse(t, "2015-03-05 23:59:60", "%F %T", at(2015, 2, 6, 0, 0, 0))
	checkParse(t, "2015-12-31 23:59:60", "%F %T", at(2016, 0, 1, 0, 0, 0))
	checkParse(t, "60 5", "%S %S", at(1900, 0, 1, 0, 0, 5))
	checkParse(t, "9999-12-31 23:59:59", "%F %T", at(9999, 11, 31, 23, 59, 59))
	checkRefused(t, "9999-12-31 23:59:60", "%F %T")
	checkRefused(t, "9999-12-31 11:59:60 PM", "%F %r")
}

// TestParseAsTheModel holds formats of several directives, and texts that are of them or nearly so, to the model.
func TestParseAsTheModel(t *testing.T) {
	random := rand.New(rand.NewSource(3))
	good, writers := 0, modelWriters()
	for range 200000 {
		format, text := randomText(random, writers)
		want, wantCode := modelParse(text, format)
		if got, code := clock.Parse(text, format); got != want || code != wantCode {
			t.Fatalf("Parse(%q, %q) answers %v and %d, want %v and %d", text, format, got, code, want, wantCode)
		}
		if wantCode == api.OK {
			good++
		}
	}
	if good < 50000 {
		t.Errorf("only %d texts tell a time", good)
	}
}

// randomText answers a format of a few directives, and a text: what each of them writes of some time, now and then with a byte changed.
func randomText(random *rand.Rand, writers map[byte]func(time.Time) string) (format, text string) {
	signs := []string{"YCymdHMSIjeklpPuwUWVGgsaAbhBDxFRTXrcntzZ%", "YCy", "mdbej", "HIkplP", "YmdHMS", "YjI pCs"}[random.Intn(6)]
	for range 1 + random.Intn(6) {
		sign := signs[random.Intn(len(signs))]
		write := writers[sign]
		gap := []string{"", " ", "-", " ", "%t", "/"}[random.Intn(6)]
		piece := gap
		if write != nil {
			format += "%" + string(sign)
			text += write(moment(random.Intn(1 << 32)))
		}
		format += gap
		if gap == "%t" {
			piece = " \n"[:random.Intn(3)]
		}
		text += piece
	}
	if text != "" && random.Intn(3) == 0 {
		at := random.Intn(len(text))
		text = text[:at] + string("0193 -:/aAmMpPsZx+%"[random.Intn(19)]) + text[at+random.Intn(2):]
	}
	if random.Intn(20) == 0 {
		text = text[:random.Intn(len(text)+1)]
	}
	return format, text
}

// TestParseOfLongTexts: a text is gone through once.
func TestParseOfLongTexts(t *testing.T) {
	const n = 1 << 20
	checkParse(t, strings.Repeat(" ", n)+"5", strings.Repeat(" ", n)+"%H", at(1900, 0, 1, 5, 0, 0))
	checkParse(t, strings.Repeat("5 ", n), strings.Repeat("%H ", n), at(1900, 0, 1, 5, 0, 0))
	checkParse(t, strings.Repeat("x", n), strings.Repeat("x", n), usual)
	checkParse(t, strings.Repeat("Sunday", n), strings.Repeat("%a", n), usual)
	checkParse(t, strings.Repeat("x", n), "%Z", usual)
	checkRefused(t, strings.Repeat("1", n), "%s")
}
