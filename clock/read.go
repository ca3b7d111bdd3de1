package clock

import (
	"colander/api"
	"colander/calendar"
)

// reader reads what stands for a directive.
type reader func(r *reading) error

// timeIn answers the time that a text of a format tells.
func timeIn(s, format string) (api.Time, error) {
	r := reading{left: s}
	if err := r.follow(format, readers()); err != nil {
		return api.Time{}, err
	}
	r.skip(isBlank)
	if r.left != "" {
		return api.Time{}, errRefused
	}
	return r.told.time()
}

// follow reads what a format says.
func (r *reading) follow(format string, directives map[byte]reader) error {
	for i := 0; i < len(format); i++ {
		if format[i] != '%' {
			if !r.literal(format[i]) {
				return errRefused
			}
			continue
		}
		i++
		if i == len(format) || directives[format[i]] == nil {
			return errRefused
		}
		if err := directives[format[i]](r); err != nil {
			return err
		}
	}
	return nil
}

// readers answers how what stands for each directive is read.
func readers() map[byte]reader {
	all := map[byte]reader{
		'Y': readNumber(4, 0, 9999, year),
		'C': readNumber(2, 0, 99, century),
		'y': readNumber(2, 0, 99, yearOfCentury),
		'm': readNumber(2, 1, 12, month),
		'd': readNumber(2, 1, 31, day),
		'e': readNumber(2, 1, 31, day),
		'H': readNumber(2, 0, 23, hour),
		'k': readNumber(2, 0, 23, hour),
		'I': readNumber(2, 1, 12, hourOfHalf),
		'l': readNumber(2, 1, 12, hourOfHalf),
		'M': readNumber(2, 0, 59, minute),
		'S': readNumber(2, 0, 60, second),
		'j': readNumber(3, 1, 366, dayOfYear),
		'U': readNumber(2, 0, 53, nothing),
		'W': readNumber(2, 0, 53, nothing),
		'V': readNumber(2, 0, 53, nothing),
		'u': readNumber(1, 0, 7, nothing),
		'w': readNumber(1, 0, 7, nothing),
		'G': readNumber(4, 0, 9999, nothing),
		'g': readNumber(2, 0, 99, nothing),
		's': readSeconds,
		'n': readMany(isBlank),
		't': readMany(isBlank),
		'%': readPercent,
		'Z': readMany(isLetter),
		'z': readZone,
	}
	addNames(all)
	addForms(all, func(format string) reader {
		return func(r *reading) error { return r.follow(format, all) }
	})
	return all
}

// addNames adds the directives that read names to others.
func addNames(all map[byte]reader) {
	dayName := readName(weekdays(), 3, nothing)
	monthName := readName(months(), 3, month)
	halfName := readName([]string{"am", "pm"}, 2, halfOfDay)

	all['a'], all['A'] = dayName, dayName
	all['b'], all['h'], all['B'] = monthName, monthName, monthName
	all['p'], all['P'] = halfName, halfName
}

// readNumber reads a number of at most so many digits, from least to most, which tells a part of a time.
func readNumber(digits, least, most int, tells part) reader {
	return func(r *reading) error {
		r.skip(isBlank)
		n, found := r.digits(digits)
		if found == 0 || n < least || n > most {
			return errRefused
		}
		r.tell(tells, n)
		return nil
	}
}

// readName reads one of several names, or its first letters, so many, which tells a part of a time by its place among them, from 1 on.
func readName(names []string, letters int, tells part) reader {
	return func(r *reading) error {
		for i, whole := range names {
			if r.cutName(whole) || r.cutName(whole[:letters]) {
				r.tell(tells, i+1)
				return nil
			}
		}
		return errRefused
	}
}

// readMany reads any many bytes of a kind, none too.
func readMany(is func(c byte) bool) reader {
	return func(r *reading) error {
		r.skip(is)
		return nil
	}
}

// readPercent reads a %.
func readPercent(r *reading) error {
	if !r.cut("%") {
		return errRefused
	}
	return nil
}

// readSeconds reads the seconds since the beginning of 1970.
func readSeconds(r *reading) error {
	sign := 1
	if r.cut("-") {
		sign = -1
	}
	n, found := r.digits(12)
	if _, code := calendar.Split(float64(sign * n)); found == 0 || code != api.OK {
		return errRefused
	}
	r.tell(seconds, sign*n)
	return nil
}

// readZone reads how far away a time zone is, which tells nothing.
func readZone(r *reading) error {
	r.skip(isBlank)
	if r.cut("Z") {
		return nil
	}
	if !r.cut("+") && !r.cut("-") {
		return errRefused
	}
	_, hours := r.digits(2)
	r.cut(":")
	_, minutes := r.digits(2)
	if hours != 2 || minutes != 2 {
		return errRefused
	}
	return nil
}
