package clock_test

import (
	"math"
	"math/rand"
	"strconv"
	"testing"

	"colander/api"
	"colander/calendar"
	"colander/clock"
)

// P12.4

// someSeconds are the first and the last ones, those about the years' ends that matter, and many between.
func someSeconds(from, to int) []int {
	random := rand.New(rand.NewSource(4))
	out := []int{from, from + 1, to - 1, to}
	for _, sec := range []int{0, -1, 1, 951782400, 951782399, 951868800, -2203977600, -62135596800, -62135596801, -62167219200, -62198755200} {
		if sec >= from && sec <= to {
			out = append(out, sec)
		}
	}
	for range 20000 {
		out = append(out, from+random.Intn(to-from+1))
	}
	return out
}

const (
	yearOne      = -62135596800
	yearThousand = -30610224000
	firstSecond  = -377705116800
	lastSecond   = 253402300799
)

// TestParseOfFormat: what Format writes is read as the same time.
func TestParseOfFormat(t *testing.T) {
	for format, from := range map[string]int{
		"%Y-%m-%d %H:%M:%S": yearThousand, "%c": yearThousand, "%s": firstSecond,
		"%F %T": yearThousand, "%Y %j %r": yearThousand, "%X, %A %e. %B %Y%n": yearThousand, "%C%y %b %d %I%p %R:%S": yearThousand, "%l %P %k %M %S %G-W%V-%u %z %Z %Y %U %W %w %g %j": yearThousand,
	} {
		for _, sec := range someSeconds(from, lastSecond) {
			when, _ := calendar.Split(float64(sec))
			text := formatted(t, when, format)
			if got, code := clock.Parse(text, format); got != when || code != api.OK {
				t.Fatalf("Parse(%q, %q) answers %v and %d, want %v", text, format, got, code, when)
			}
		}
	}
}

// TestParseOfFormatOfEarlyYears: a year of few digits is read, too, where what is behind it is none.
func TestParseOfFormatOfEarlyYears(t *testing.T) {
	for _, format := range []string{"%Y-%m-%d %H:%M:%S", "%c"} {
		for _, sec := range someSeconds(-62167219200, yearThousand) {
			when, _ := calendar.Split(float64(sec))
			text := formatted(t, when, format)
			if got, code := clock.Parse(text, format); got != when || code != api.OK {
				t.Fatalf("Parse(%q, %q) answers %v and %d, want %v", text, format, got, code, when)
			}
		}
	}
}

func TestMktimeOfGmtime(t *testing.T) {
	for _, sec := range append(someSeconds(yearOne, lastSecond), someSeconds(firstSecond, yearOne)...) {
		fields, err := clock.Gmtime(num(float64(sec)))
		if err.Is {
			t.Fatalf("Gmtime(%d): %s", sec, err.V.Str)
		}
		checkMktime(t, fields, num(float64(sec)), "")
	}
}

// TestStrptimeOfStrftime: the functions on values undo one another, as those on texts do.
func TestStrptimeOfStrftime(t *testing.T) {
	for _, sec := range someSeconds(yearThousand, lastSecond)[:5000] {
		text, _ := clock.Strftime(num(float64(sec)), str("%FT%TZ"))
		fields, _ := clock.Gmtime(num(float64(sec)))
		checkStrptime(t, text, str("%Y-%m-%dT%H:%M:%SZ"), fields, "")
	}
}

// TestFormatOfSplit: Format takes each time that Split gives, but one whose seconds are rounded up to 60.
func TestFormatOfSplit(t *testing.T) {
	random := rand.New(rand.NewSource(5))
	for range 20000 {
		sec := (random.Float64() - 0.5) * math.Pow(10, float64(random.Intn(12)))
		when, code := calendar.Split(sec)
		text, formatCode := clock.Format(when, "%s")
		if want := strconv.Itoa(int(math.Floor(sec))); code != api.OK || when.Sec < 60 && (formatCode != api.OK || text != want) || when.Sec >= 60 && formatCode != api.ErrDate {
			t.Fatalf("Format(%v, %%s) answers %q and %d, want %q", when, text, formatCode, want)
		}
	}
}
