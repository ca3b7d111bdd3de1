package lexer

import (
	"strings"

	"colander/api"
	"colander/number"
)

// tokenOf answers the token that s begins with, which is no part of a string, and how many bytes it has: none, if no token stands there.
func tokenOf(s string) (api.Token, int) {
	sign, behind := s[0], s[1:]
	if name := nameOf(s); name != "" {
		return api.Token{Kind: kindOf(name), Text: name}, len(name)
	}
	if name := simpleName(behind); sign == '.' && name != "" {
		return api.Token{Kind: api.TokField, Text: name}, 1 + len(name)
	}
	if name := nameOf(behind); sign == '$' && name != "" {
		return api.Token{Kind: api.TokVar, Text: name}, 1 + len(name)
	}
	if n := letters(behind); sign == '@' && n > 0 {
		return api.Token{Kind: api.TokFormat, Text: s[:1+n]}, 1 + n
	}
	if n := numberIn(s); n > 0 {
		f, _ := number.Parse(s[:n])
		return api.Token{Kind: api.TokNumber, Num: f}, n
	}
	n := signIn(s)
	return api.Token{Kind: api.TokSign, Text: s[:n]}, n
}

// kindOf answers the kind of the token that is a name.
func kindOf(name string) api.TokenKind {
	if Word(name) {
		return api.TokWord
	}
	return api.TokName
}

// nameOf answers the longest name, perhaps with others ahead of it, that s begins with; or nothing.
func nameOf(s string) string {
	const mark = "::"
	n := len(simpleName(s))
	for n > 0 {
		behind, ok := strings.CutPrefix(s[n:], mark)
		next := simpleName(behind)
		if !ok || next == "" {
			break
		}
		n += len(mark) + len(next)
	}
	return s[:n]
}

// simpleName answers the longest name without others ahead of it that s begins with; or nothing.
func simpleName(s string) string {
	if digits(s) > 0 {
		return ""
	}
	return s[:letters(s)]
}

// letters counts the letters, digits and _ that s begins with.
func letters(s string) int {
	return ahead(s, isLetter)
}

// digits counts the digits that s begins with.
func digits(s string) int {
	return ahead(s, isDigit)
}

// ahead counts the bytes of a kind that s begins with.
func ahead(s string, is func(byte) bool) int {
	n := 0
	for n < len(s) && is(s[n]) {
		n++
	}
	return n
}

func isLetter(c byte) bool {
	return c == '_' || c >= 'a' && c <= 'z' || c >= 'A' && c <= 'Z' || isDigit(c)
}

func isDigit(c byte) bool {
	return c >= '0' && c <= '9'
}

// numberIn tells how many bytes the number has that s begins with.
func numberIn(s string) int {
	n := digits(s)
	if behind, ok := strings.CutPrefix(s[n:], "."); ok {
		fraction := digits(behind)
		if n+fraction > 0 {
			n += 1 + fraction
		}
	}
	if n == 0 {
		return 0
	}
	return n + exponentIn(s[n:])
}

// exponentIn tells how many bytes the exponent has that s begins with.
func exponentIn(s string) int {
	if s == "" || s[0] != 'e' && s[0] != 'E' {
		return 0
	}
	n := 1
	if n < len(s) && (s[n] == '+' || s[n] == '-') {
		n++
	}
	if count := digits(s[n:]); count > 0 {
		return n + count
	}
	return 0
}

// signIn tells how many bytes the longest sign has that s begins with.
func signIn(s string) int {
	const longest = len("?//")
	for n := min(longest, len(s)); n > 0; n-- {
		if isSign(s[:n]) {
			return n
		}
	}
	return 0
}

func isSign(s string) bool {
	switch s {
	case "?//", "//=",
		"!=", "==", "//", "|=", "+=", "-=", "*=", "/=", "%=", "<=", ">=", "..",
		"<", ">", "=", "+", "-", "*", "/", "%", "|", ",", ".", "[", "]", "(", ")", "{", "}", ":", ";", "?", "$":
		return true
	}
	return false
}
