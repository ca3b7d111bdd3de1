package number

import (
	"errors"
	"strconv"
	"strings"

	"colander/api"
)

// Parse answers the double that is nearest to the number that s writes: ErrNumber, if it writes none.
func Parse(s string) (float64, api.Errno) {
	d, ok := read(s)
	if !ok {
		return 0, api.ErrNumber
	}
	f, err := strconv.ParseFloat(d.text(), 64)
	// Of what is out of the range ParseFloat answers the infinity of its sign, which is asked for here.
	if err != nil && !errors.Is(err, strconv.ErrRange) {
		return 0, api.ErrNumber
	}
	return f, api.OK
}

// decimal is the number 0.digits times 10 to the power of exp, the first digit not 0; without digits it is 0.
type decimal struct {
	sign   string
	digits string
	exp    int64
}

func read(s string) (decimal, bool) {
	sign, rest := cutSign(s)
	whole, rest := cutDigits(rest)
	fraction := ""
	if behind, ok := strings.CutPrefix(rest, "."); ok {
		fraction, rest = cutDigits(behind)
	}
	exp, ok := readExp(rest)
	if !ok || whole == "" && fraction == "" {
		return decimal{}, false
	}
	all := whole + fraction
	digits := strings.TrimLeft(all, "0")
	noughts := len(all) - len(digits)
	return decimal{sign, digits, exp + int64(len(whole)-noughts)}, true
}

// readExp reads what stands behind a number's digits: nothing, or its exponent.
func readExp(s string) (int64, bool) {
	if s == "" {
		return 0, true
	}
	if s[0] != 'e' && s[0] != 'E' {
		return 0, false
	}
	sign, rest := cutSign(s[1:])
	digits, rest := cutDigits(rest)
	if digits == "" || rest != "" {
		return 0, false
	}
	// Out of its range ParseInt answers the end of the range; a number's length is yet to be added, so that there must be room.
	const far = 1 << 40
	n, _ := strconv.ParseInt(sign+digits, 10, 64)
	return max(-far, min(n, far)), true
}

// text writes the number as ParseFloat reads it right: that stops counting at exponents of some ten thousand, and so misses what many digits make up for.
func (d decimal) text() string {
	const beyond = 1000 // all doubles' exponents, on both sides
	exp := max(-beyond, min(d.exp, beyond))
	return d.sign + "0." + d.digits + "e" + strconv.FormatInt(exp, 10)
}

func cutSign(s string) (string, string) {
	if s != "" && (s[0] == '+' || s[0] == '-') {
		return s[:1], s[1:]
	}
	return "", s
}

func cutDigits(s string) (string, string) {
	n := 0
	for n < len(s) && s[n] >= '0' && s[n] <= '9' {
		n++
	}
	return s[:n], s[n:]
}
