package syntax

import (
	"math"
	"slices"
	"strings"

	"colander/api"
	"colander/lexer"
	"colander/runes"
)

// location is the name that no variable has, as it stands for a place in the text.
const location = "__loc__"

// hasItsOwn tells whether a node has by itself what its kind has, and nothing besides.
func hasItsOwn(x api.Node) bool {
	return hasItsText(x) && hasItsNumber(x) && hasItsCount(x) && x.M == 0
}

func hasItsText(x api.Node) bool {
	switch x.Kind {
	case api.NString:
		return x.Text == "" || isFormat(x.Text)
	case api.NText:
		return x.Text != "" && runes.Valid(x.Text)
	case api.NFormat:
		return isFormat(x.Text)
	case api.NUpdate:
		return isOneOf(x.Text, "=", "|=", "+=", "-=", "*=", "/=", "%=", "//=")
	case api.NCompare:
		return isOneOf(x.Text, "==", "!=", "<", "<=", ">", ">=")
	case api.NBinary:
		return isOneOf(x.Text, "+", "-", "*", "/", "%")
	case api.NFunc:
		return isDefinable(x.Text, 0)
	case api.NParam:
		return isDefinable(x.Text, x.N)
	case api.NLabel, api.NBreak, api.PVar:
		return isDefinable(x.Text, 1)
	case api.NCall:
		return lexer.Name(x.Text) && !lexer.Word(x.Text)
	case api.NVar:
		return lexer.Name(x.Text) && x.Text != location
	case api.NImport:
		return runes.Valid(x.Text)
	}
	return x.Text == ""
}

func hasItsNumber(x api.Node) bool {
	if x.Kind == api.NNumber {
		return x.Num >= 0 && !math.Signbit(x.Num)
	}
	return math.Float64bits(x.Num) == 0
}

func hasItsCount(x api.Node) bool {
	switch x.Kind {
	case api.NParam:
		return x.N == 0 || x.N == 1
	case api.NLoc:
		return x.N >= 0
	case api.NImport:
		return x.N >= 0 && x.N <= 2
	}
	return x.N == 0
}

// isDefinable tells whether a program may give a name to something that is called (n is 0), or that stands behind a $.
func isDefinable(name string, n int) bool {
	if n == 0 {
		return isPlain(name) && !lexer.Word(name)
	}
	return isPlain(name) && name != location
}

// isPlain tells whether s is a name without others ahead of it.
func isPlain(s string) bool {
	return lexer.Name(s) && !strings.Contains(s, "::")
}

func isFormat(s string) bool {
	name, ok := strings.CutPrefix(s, "@")
	return ok && name != "" && isPlain("_"+name) // a format's name may begin with a digit
}

func isOneOf(s string, l ...string) bool {
	return slices.Contains(l, s)
}
