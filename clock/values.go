package clock

import (
	"colander/answer"
	"colander/api"
	"colander/calendar"
	"colander/number"
	"colander/runes"
)

// Gmtime takes seconds apart: an array of the fields of a time.
func Gmtime(v api.Value) (api.Value, api.Err) {
	if v.Kind != api.Number {
		return failed("gmtime() requires a number")
	}
	t, code := calendar.Split(v.Num)
	if code != api.OK {
		return failed("error converting number of seconds since epoch to datetime")
	}
	return fields(t), api.Err{}
}

// Mktime puts the fields of a time together as seconds.
func Mktime(v api.Value) (api.Value, api.Err) {
	if !isLong(v) {
		return failed("mktime requires array of 6 numbers")
	}
	if !isTime(v) {
		return failed("mktime requires parsed datetime inputs")
	}
	sec, code := joined(v)
	if code != api.OK {
		return failed("invalid gmtime representation")
	}
	return answer.Number(sec), api.Err{}
}

// Strftime writes seconds, or the fields of a time, as a format says.
func Strftime(v api.Value, format api.Value) (api.Value, api.Err) {
	if v.Kind == api.Number {
		t, err := Gmtime(v)
		if err.Is {
			return api.Value{}, err
		}
		v = t
	}
	if !isLong(v) || !isTime(v) {
		return failed("strftime/1 requires parsed datetime inputs")
	}
	if format.Kind != api.String {
		return failed("strftime/1 requires a string format")
	}
	sec, code := joined(v)
	if code != api.OK {
		return failed("invalid gmtime representation")
	}
	t, _ := calendar.Split(float64(sec))
	text, _ := Format(t, format.Str)
	return answer.Small(api.Value{Kind: api.String, Str: runes.Clean([]byte(text))})
}

// Strptime reads a text as a format says: an array of the fields of a time.
func Strptime(v api.Value, format api.Value) (api.Value, api.Err) {
	if v.Kind != api.String || format.Kind != api.String {
		return failed("strptime/1 requires string inputs and arguments")
	}
	t, code := Parse(v.Str, format.Str)
	if code != api.OK {
		return mismatch(v.Str, format.Str)
	}
	return fields(t), api.Err{}
}

// mismatch is the error of a text that is not of a format.
func mismatch(text, format string) (api.Value, api.Err) {
	told, err := answer.Small(api.Value{Kind: api.String, Str: `date "` + text + `" does not match format "` + format + `"`})
	if err.Is {
		return api.Value{}, err
	}
	return api.Value{}, api.Err{Is: true, V: told}
}

// fields answers a time as an array of its fields.
func fields(t api.Time) api.Value {
	return api.Value{Kind: api.Array, List: []api.Value{
		answer.Number(t.Year), answer.Number(t.Month), answer.Number(t.Day),
		answer.Number(t.Hour), answer.Number(t.Min), {Kind: api.Number, Num: t.Sec},
		answer.Number(t.Wday), answer.Number(t.Yday),
	}}
}

// isLong tells whether v is an array that has the fields up to the second.
func isLong(v api.Value) bool {
	return v.Kind == api.Array && len(v.List) >= 6
}

// isTime tells whether the fields up to the second are numbers.
func isTime(v api.Value) bool {
	for _, field := range v.List[:6] {
		if field.Kind != api.Number {
			return false
		}
	}
	return true
}

// joined answers the seconds of an array of fields.
func joined(v api.Value) (int, api.Errno) {
	whole := func(i int) int { return number.Int(v.List[i].Num) }
	return calendar.Join(api.Time{
		Year:  whole(0),
		Month: whole(1),
		Day:   whole(2),
		Hour:  whole(3),
		Min:   whole(4),
		Sec:   v.List[5].Num,
	})
}

func failed(text string) (api.Value, api.Err) {
	return api.Value{}, answer.Failure(text)
}
