package clock

// weekdays are the days of the week from number 0 on.
func weekdays() []string {
	return []string{"Sunday", "Monday", "Tuesday", "Wednesday", "Thursday", "Friday", "Saturday"}
}

// months are the months of a year from number 0 on.
func months() []string {
	return []string{
		"January", "February", "March", "April", "May", "June",
		"July", "August", "September", "October", "November", "December",
	}
}

// short answers the letters by which a day of the week, or a month, is told for short.
func short(name string) string {
	return name[:3]
}

// addForms adds the directives that stand for a format to others: what made makes of it.
func addForms[D any](directives map[byte]D, made func(format string) D) {
	for _, form := range []struct{ signs, format string }{
		{"Dx", "%m/%d/%y"},
		{"F", "%Y-%m-%d"},
		{"R", "%H:%M"},
		{"TX", "%H:%M:%S"},
		{"r", "%I:%M:%S %p"},
		{"c", "%a %b %e %H:%M:%S %Y"},
	} {
		for i := range len(form.signs) {
			directives[form.signs[i]] = made(form.format)
		}
	}
}
