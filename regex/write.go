package regex

import (
	"strconv"
	"strings"

	"colander/api"
)

// sheet is what a pattern is written on. What is too long or too deep is given up.
type sheet struct {
	out  strings.Builder
	open int // how many parentheses are open
}

// written answers the pattern of a tree that may be.
func written(p api.Pat) string {
	var w sheet
	w.node(p)
	return w.out.String()
}

func (w *sheet) write(text string) {
	must(w.out.Len()+len(text) <= api.MaxPat)
	w.out.WriteString(text)
}

func (w *sheet) node(p api.Pat) {
	switch p.Kind {
	case api.XChar:
		w.write(pointText(p.N, `*+?|()[]{}\^$.#`))
	case api.XSet:
		w.set(p)
	case api.XSeq:
		w.sequence(p.Sub)
	case api.XAlt:
		w.choice(p.Sub)
	case api.XRepeat:
		w.part(api.XRepeat, p.Sub[0])
		w.write(repeatText(p))
	case api.XGroup, api.XLook, api.XAtomic:
		w.enclosed(headText(p), p.Sub[0])
	case api.XBack:
		w.write(backText(p))
	default:
		w.write(signOf(p.Kind))
	}
}

// enclosed writes a node in parentheses.
func (w *sheet) enclosed(head string, p api.Pat) {
	must(w.open < maxOpen)
	w.open++
	w.write(head)
	w.node(p)
	w.write(")")
	w.open--
}

// part writes a node that stands in one of a kind.
func (w *sheet) part(outer api.PatKind, p api.Pat) {
	if isLoose(outer, p.Kind) {
		w.enclosed("(?:", p)
	} else {
		w.node(p)
	}
}

// isLoose tells whether a node would be taken for parts of the one in which it stands.
func isLoose(outer, inner api.PatKind) bool {
	switch outer {
	case api.XSeq:
		return inner == api.XSeq || inner == api.XAlt || inner == api.XEmpty
	case api.XAlt:
		return inner == api.XAlt
	}
	return inner == api.XSeq || inner == api.XAlt || inner == api.XEmpty || inner == api.XRepeat || isPlace(inner)
}

func (w *sheet) sequence(parts []api.Pat) {
	for i, p := range parts {
		if p.Kind == api.XBack && p.Text == "" && i+1 < len(parts) && beginsWithDigit(parts[i+1]) {
			w.enclosed("(?:", p)
		} else {
			w.part(api.XSeq, p)
		}
	}
}

// beginsWithDigit tells whether the text of a part of a sequence does.
func beginsWithDigit(p api.Pat) bool {
	if p.Kind == api.XRepeat {
		p = p.Sub[0]
	}
	return p.Kind == api.XChar && p.N >= '0' && p.N <= '9'
}

func (w *sheet) choice(parts []api.Pat) {
	for i, p := range parts {
		if i > 0 {
			w.write("|")
		}
		w.part(api.XAlt, p)
	}
}

func (w *sheet) set(p api.Pat) {
	const marked = `[]\^-&`
	w.write("[")
	if p.Not {
		w.write("^")
	}
	for _, r := range p.Ranges {
		w.write(pointText(r.From, marked))
		if r.To != r.From {
			w.write("-" + pointText(r.To, marked))
		}
	}
	w.write("]")
}

// pointText answers how a code point is written where some are marked with a backslash.
func pointText(n int, marked string) string {
	const firstSeen, lastControl = ' ', 127
	text := string(rune(n))
	switch {
	case n < firstSeen || n == lastControl:
		return `\x{` + strconv.FormatInt(int64(n), 16) + "}"
	case strings.Contains(marked, text):
		return `\` + text
	}
	return text
}

// repeatText answers how often, and in which mode.
func repeatText(p api.Pat) string {
	often, bySign := oftenText(p.Min, p.Max)
	switch p.Mode {
	case api.ModeLazy:
		return often + "?"
	case api.ModeSure:
		must(bySign)
		return often + "+"
	}
	return often
}

// oftenText answers how counts are written, and whether they have a sign.
func oftenText(least, most int) (text string, bySign bool) {
	from, to := strconv.Itoa(least), strconv.Itoa(most)
	switch {
	case least == 0 && most == -1:
		return "*", true
	case least == 1 && most == -1:
		return "+", true
	case least == 0 && most == 1:
		return "?", true
	case most == -1:
		return "{" + from + ",}", false
	case least == most:
		return "{" + from + "}", false
	}
	return "{" + from + "," + to + "}", false
}

// headText answers how the parenthesis of a node begins.
func headText(p api.Pat) string {
	switch {
	case p.Kind == api.XAtomic:
		return "(?>"
	case p.Kind == api.XLook && p.Back && p.Not:
		return "(?<!"
	case p.Kind == api.XLook && p.Back:
		return "(?<="
	case p.Kind == api.XLook && p.Not:
		return "(?!"
	case p.Kind == api.XLook:
		return "(?="
	case p.Text != "":
		return "(?<" + p.Text + ">"
	}
	return "("
}

func backText(p api.Pat) string {
	if p.Text != "" {
		return `\k<` + p.Text + ">"
	}
	return `\` + strconv.Itoa(p.N)
}
