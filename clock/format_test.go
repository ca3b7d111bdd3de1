package clock_test

import (
	"math"
	"math/rand"
	"strings"
	"testing"

	"colander/api"
	"colander/calendar"
	"colander/clock"
)

// P12.1

// march is the chapter's time.
var march = at(2015, 2, 5, 23, 51, 47)

// at answers a time whose Wday and Yday are not told.
func at(year, month, day, hour, min int, sec float64) api.Time {
	return api.Time{Year: year, Month: month, Day: day, Hour: hour, Min: min, Sec: sec}
}

func checkFormat(t *testing.T, when api.Time, format, want string) {
	t.Helper()
	if got, code := clock.Format(when, format); got != want || code != api.OK {
		t.Errorf("Format(%v, %q) answers %q and %d, want %q", when, format, got, code, want)
	}
}

func checkNotFormatted(t *testing.T, when api.Time) {
	t.Helper()
	for _, format := range []string{"%Y-%m-%d", "", "x"} {
		if got, code := clock.Format(when, format); got != "" || code != api.ErrDate {
			t.Errorf("Format(%v, %q) answers %q and %d", when, format, got, code)
		}
	}
}

func TestFormatOfTheChapter(t *testing.T) {
	checkFormat(t, march, "%A, %B %d, %Y", "Thursday, March 05, 2015")
	checkFormat(t, march, "%e|%j|%U|%V|%I%p|%%|%q", " 5|064|09|10|11PM|%|%q")
}

func TestFormatOfNames(t *testing.T) {
	days := []string{"Sunday", "Monday", "Tuesday", "Wednesday", "Thursday", "Friday", "Saturday"}
	for n, name := range days {
		checkFormat(t, at(2015, 2, 1+n, 0, 0, 0), "%A %a %w %u", name+" "+name[:3]+" "+string("0123456"[n])+" "+string("7123456"[n]))
	}
	names := strings.Fields("January February March April May June July August September October November December")
	numbers := strings.Fields("01 02 03 04 05 06 07 08 09 10 11 12")
	for n, name := range names {
		checkFormat(t, at(2015, n, 1, 0, 0, 0), "%B %b %h %m", name+" "+name[:3]+" "+name[:3]+" "+numbers[n])
	}
}

func TestFormatOfYears(t *testing.T) {
	for year, want := range map[int]string{
		2015: "2015 20 15", 2000: "2000 20 00", 1999: "1999 19 99", 9999: "9999 99 99", 1000: "1000 10 00",
		999: "999 09 99", 100: "100 01 00", 99: "99 00 99", 10: "10 00 10", 5: "5 00 05", 0: "0 00 00",
		-1: "-1 -01 99", -5: "-5 -01 95", -99: "-99 -01 01", -100: "-100 -01 00", -101: "-101 -02 99", -999: "-999 -10 01",
		-1000: "-1000 -10 00", -9900: "-9900 -99 00", -9901: "-9901 -100 99", -9999: "-9999 -100 01",
	} {
		checkFormat(t, at(year, 5, 15, 0, 0, 0), "%Y %C %y", want)
		checkFormat(t, at(year, 5, 15, 0, 0, 0), "%G %g", want[:strings.Index(want, " ")]+want[strings.LastIndex(want, " "):])
	}
}

func TestFormatOfDays(t *testing.T) {
	checkFormat(t, at(2015, 0, 1, 0, 0, 0), "%d|%e|%j", "01| 1|001")
	checkFormat(t, at(2015, 0, 9, 0, 0, 0), "%d|%e|%j", "09| 9|009")
	checkFormat(t, at(2015, 0, 10, 0, 0, 0), "%d|%e|%j", "10|10|010")
	checkFormat(t, at(2015, 3, 9, 0, 0, 0), "%d|%e|%j", "09| 9|099")
	checkFormat(t, at(2015, 3, 10, 0, 0, 0), "%d|%e|%j", "10|10|100")
	checkFormat(t, at(2015, 11, 31, 0, 0, 0), "%d|%e|%j", "31|31|365")
	checkFormat(t, at(2016, 11, 31, 0, 0, 0), "%d|%e|%j", "31|31|366")
	checkFormat(t, at(2016, 1, 29, 0, 0, 0), "%d|%e|%j", "29|29|060")
}

func TestFormatOfHours(t *testing.T) {
	for hour, want := range []string{
		"00| 0|12|12|AM|am", "01| 1|01| 1|AM|am", "02| 2|02| 2|AM|am", "03| 3|03| 3|AM|am", "04| 4|04| 4|AM|am", "05| 5|05| 5|AM|am",
		"06| 6|06| 6|AM|am", "07| 7|07| 7|AM|am", "08| 8|08| 8|AM|am", "09| 9|09| 9|AM|am", "10|10|10|10|AM|am", "11|11|11|11|AM|am",
		"12|12|12|12|PM|pm", "13|13|01| 1|PM|pm", "14|14|02| 2|PM|pm", "15|15|03| 3|PM|pm", "16|16|04| 4|PM|pm", "17|17|05| 5|PM|pm",
		"18|18|06| 6|PM|pm", "19|19|07| 7|PM|pm", "20|20|08| 8|PM|pm", "21|21|09| 9|PM|pm", "22|22|10|10|PM|pm", "23|23|11|11|PM|pm",
	} {
		checkFormat(t, at(2015, 2, 5, hour, 0, 0), "%H|%k|%I|%l|%p|%P", want)
	}
	checkFormat(t, at(2015, 2, 5, 0, 7, 8), "%M|%S", "07|08")
	checkFormat(t, at(2015, 2, 5, 0, 59, 0), "%M|%S", "59|00")
	checkFormat(t, at(2015, 2, 5, 0, 0, 59), "%M|%S", "00|59")
}

func TestFormatOfWeeks(t *testing.T) {
	checkFormat(t, at(2021, 0, 1, 0, 0, 0), "%U %W %V %G %g", "00 00 53 2020 20")
	checkFormat(t, at(2021, 0, 3, 0, 0, 0), "%U %W %V %G %g", "01 00 53 2020 20")
	checkFormat(t, at(2021, 0, 4, 0, 0, 0), "%U %W %V %G %g", "01 01 01 2021 21")
	checkFormat(t, at(2024, 11, 30, 0, 0, 0), "%U %W %V %G %g", "52 53 01 2025 25")
	checkFormat(t, at(2000, 0, 1, 0, 0, 0), "%U %W %V %G %g", "00 00 52 1999 99")
	checkFormat(t, at(0, 0, 1, 0, 0, 0), "%U %W %V %G %g", "00 00 52 -1 99")
	checkFormat(t, at(-9999, 0, 1, 0, 0, 0), "%U %W %V %G %g", "00 01 01 -9999 01")
}

func TestFormatOfSeconds(t *testing.T) {
	checkFormat(t, at(1970, 0, 1, 0, 0, 0), "%s", "0")
	checkFormat(t, at(1970, 0, 1, 0, 0, 9), "%s", "9")
	checkFormat(t, at(1969, 11, 31, 23, 59, 59), "%s", "-1")
	checkFormat(t, march, "%s", "1425599507")
	checkFormat(t, at(-9999, 0, 1, 0, 0, 0), "%s", "-377705116800")
	checkFormat(t, at(9999, 11, 31, 23, 59, 59), "%s", "253402300799")
}

func TestFormatOfFormats(t *testing.T) {
	early := at(2009, 0, 2, 3, 4, 5)
	checkFormat(t, early, "%D|%x", "01/02/09|01/02/09")
	checkFormat(t, early, "%F", "2009-01-02")
	checkFormat(t, early, "%R", "03:04")
	checkFormat(t, early, "%T|%X", "03:04:05|03:04:05")
	checkFormat(t, early, "%r", "03:04:05 AM")
	checkFormat(t, early, "%c", "Fri Jan  2 03:04:05 2009")
	checkFormat(t, march, "%D|%x|%F|%R|%T|%X|%r|%c", "03/05/15|03/05/15|2015-03-05|23:51|23:51:47|23:51:47|11:51:47 PM|Thu Mar  5 23:51:47 2015")
	checkFormat(t, at(-5, 9, 31, 0, 0, 0), "%D|%F|%c", "10/31/95|-5-10-31|Tue Oct 31 00:00:00 -5")
}

func TestFormatOfFixedTexts(t *testing.T) {
	checkFormat(t, march, "%n|%t|%%|%z|%Z", "\n|\t|%|+0000|UTC")
	checkFormat(t, march, "", "")
	checkFormat(t, march, "no directive", "no directive")
	checkFormat(t, march, "é\x00\xff\n\t", "é\x00\xff\n\t")
}

// TestFormatOfAllBytes: a % with a byte behind it that is no directive stands for itself.
func TestFormatOfAllBytes(t *testing.T) {
	const directives = "aAbhBYCymdHMSIjeklpPuwUWVGgsDxFRTXrcnt%zZ"
	for c := range 256 {
		sign := "%" + string([]byte{byte(c)})
		got, code := clock.Format(march, "<"+sign+">")
		if known := strings.Contains(directives, sign[1:]); code != api.OK || known == (got == "<"+sign+">") {
			t.Errorf("Format by <%q> answers %q and %d", sign, got, code)
		}
	}
	checkFormat(t, march, "%", "%")
	checkFormat(t, march, "%%%", "%%")
	checkFormat(t, march, "%%%%", "%%")
	checkFormat(t, march, "%%d%d%", "%d05%")
	checkFormat(t, march, "%Q%d", "%Q05")
	checkFormat(t, march, "%é%Ed%-d% d%5d%_d", "%é%Ed%-d% d%5d%_d")
}

// TestFormatFieldsNotLookedAt: Wday, Yday and the seconds' fraction say nothing.
func TestFormatFieldsNotLookedAt(t *testing.T) {
	for _, far := range []int{0, 4, 63, -1, 7, 366, math.MaxInt, math.MinInt} {
		when := march
		when.Wday, when.Yday = far, -far
		checkFormat(t, when, "%a %w %u %j %U %c", "Thu 4 4 064 09 Thu Mar  5 23:51:47 2015")
	}
	for _, fraction := range []float64{47.25, 47.999, math.Nextafter(48, 0), math.Nextafter(47, 48)} {
		checkFormat(t, at(2015, 2, 5, 23, 51, fraction), "%S %T %s", "47 23:51:47 1425599507")
	}
	checkFormat(t, at(1970, 0, 1, 0, 0, math.SmallestNonzeroFloat64), "%S %s", "00 0")
	checkFormat(t, at(1970, 0, 1, 0, 0, math.Copysign(0, -1)), "%S %s", "00 0")
	checkFormat(t, at(9999, 11, 31, 23, 59, math.Nextafter(60, 0)), "%S", "59")
}

func TestFormatOfNoTime(t *testing.T) {
	for _, field := range []struct {
		of   func(t *api.Time) *int
		none []int
	}{
		{func(t *api.Time) *int { return &t.Year }, []int{-10000, 10000, math.MinInt, math.MaxInt}},
		{func(t *api.Time) *int { return &t.Month }, []int{-1, 12, -12, 24, math.MinInt, math.MaxInt}},
		{func(t *api.Time) *int { return &t.Day }, []int{0, 32, -1, math.MinInt, math.MaxInt}},
		{func(t *api.Time) *int { return &t.Hour }, []int{-1, 24, math.MinInt, math.MaxInt}},
		{func(t *api.Time) *int { return &t.Min }, []int{-1, 60, math.MinInt, math.MaxInt}},
	} {
		for _, n := range field.none {
			when := march
			*field.of(&when) = n
			checkNotFormatted(t, when)
		}
	}
	for _, sec := range []float64{-1, 60, 61, 60.5, -0.5, -math.SmallestNonzeroFloat64, 1e300, math.NaN(), math.Inf(1), math.Inf(-1)} {
		checkNotFormatted(t, at(2015, 2, 5, 23, 51, sec))
	}
	checkNotFormatted(t, api.Time{})
	checkNotFormatted(t, at(2015, 1, 29, 0, 0, 0))
	checkNotFormatted(t, at(1900, 1, 29, 0, 0, 0))
	checkNotFormatted(t, at(2016, 1, 30, 0, 0, 0))
	checkNotFormatted(t, at(2015, 3, 31, 0, 0, 0))
	checkNotFormatted(t, at(9999, 11, 31, 23, 59, 60))
}

// TestFormatAsTheModel holds all directives to the model.
func TestFormatAsTheModel(t *testing.T) {
	random := rand.New(rand.NewSource(1))
	writers := modelWriters()
	for n := -4371587; n <= 2932896; n += 1 + random.Intn(300) {
		sec := n*86400 + random.Intn(86400)
		when, _ := calendar.Split(float64(sec))
		format, want := "", ""
		for sign, write := range writers {
			format += "%" + string(sign) + "|"
			want += write(moment(sec)) + "|"
		}
		checkFormat(t, when, format, want)
	}
}

// TestFormatOfManyDirectives: what stands in a row is written in a row.
func TestFormatOfManyDirectives(t *testing.T) {
	random := rand.New(rand.NewSource(2))
	pieces := strings.Fields("%a %A %b %h %B %Y %C %y %m %d %H %M %S %I %j %e %k %l %p %P %u %w %U %W %V %G %g %s %D %x %F %R %T %X %r %c %n %t %% %z %Z %q % é x - : \xff")
	for range 3000 {
		when, _ := calendar.Split(math.Floor(random.Float64()*6e11) - 3.6e11)
		format, want := "", ""
		for range random.Intn(12) {
			piece := pieces[random.Intn(len(pieces))]
			format += piece
			want += formatted(t, when, piece)
			if piece == "%" {
				break // it stands for itself only where nothing is behind it
			}
		}
		checkFormat(t, when, format, want)
	}
}

func formatted(t *testing.T, when api.Time, format string) string {
	t.Helper()
	text, code := clock.Format(when, format)
	if code != api.OK {
		t.Fatalf("Format(%v, %q) answers %d", when, format, code)
	}
	return text
}

// TestFormatOfLongFormats: what is written is longer than the format by no more than it has directives.
func TestFormatOfLongFormats(t *testing.T) {
	const n = 1 << 19
	got := formatted(t, march, strings.Repeat("%c", n))
	if got != strings.Repeat("Thu Mar  5 23:51:47 2015", n) {
		t.Errorf("a format of %d directives is written in %d bytes", n, len(got))
	}
}
