package syntax_test

import (
	"fmt"
	"math"
	"regexp"
	"strconv"
	"strings"
	"unicode/utf8"

	"colander/api"
)

// The tests' own model of which trees may be: each node is told a letter for what it is, and regular expressions are asked about the letters of its parts.

// The letters: x a number; s a string of text alone; k an object, c another constant; j constants with commas between; e any other expression; v p patterns, b several of them; o a pattern's entry; Y y an entry of constants, another one; a a parameter; d a definition; t a text; n nothing; i m M an import, a module's data, a module; - what may not be.

const plainIs = `[A-Za-z_][A-Za-z_0-9]*`

var (
	plainForm    = regexp.MustCompile(`^` + plainIs + `$`)
	nameForm     = regexp.MustCompile(`^(` + plainIs + `::)*` + plainIs + `$`)
	wordForm     = regexp.MustCompile(`^(def|import|include|module|if|then|elif|else|end|as|reduce|foreach|try|catch|label|break|and|or|__loc__)$`)
	formatForm   = regexp.MustCompile(`^@[A-Za-z0-9_]+$`)
	updateForm   = regexp.MustCompile(`^(\||\+|-|\*|/|%|//)?=$`)
	compareForm  = regexp.MustCompile(`^([=!<>]=|[<>])$`)
	binaryForm   = regexp.MustCompile(`^[-+*/%]$`)
	constantForm = regexp.MustCompile(`^(null|true|false)$`)
)

// forms are, for each kind, what letters its parts may have, and the letter that it has then: the first that fits. E is any expression, C a constant.
var forms = map[api.NodeKind][]struct{ parts, letter string }{
	api.NNone: {{"", "n"}}, api.NText: {{"", "t"}}, api.NParam: {{"", "a"}}, api.NNumber: {{"", "x"}}, api.PVar: {{"", "v"}},
	api.NIdentity: {{"", "e"}}, api.NRecurse: {{"", "e"}}, api.NFormat: {{"", "e"}}, api.NVar: {{"", "e"}}, api.NLoc: {{"", "e"}}, api.NBreak: {{"", "e"}},
	api.NIndex: {{"EE", "e"}}, api.NPipe: {{"EE", "e"}}, api.NAlt: {{"EE", "e"}}, api.NUpdate: {{"EE", "e"}}, api.NOr: {{"EE", "e"}}, api.NAnd: {{"EE", "e"}}, api.NCompare: {{"EE", "e"}}, api.NBinary: {{"EE", "e"}},
	api.NEach: {{"E", "e"}}, api.NLabel: {{"E", "e"}}, api.NTry: {{"E", "e"}, {"EE", "e"}}, api.NSlice: {{"EE(n|E)", "e"}, {"EnE", "e"}},
	api.NString: {{"t?", "s"}, {"t?(E+t)*E*", "e"}},
	api.NArray:  {{"", "c"}, {"(C|j)", "c"}, {"E", "e"}},
	api.NComma:  {{"(C|j)(C|j)", "j"}, {"EE", "e"}},
	api.NObject: {{"Y*", "k"}, {"[yY]*", "e"}},
	api.NEntry:  {{"sC", "Y"}, {"EE", "y"}},
	api.NNeg:    {{"x", "c"}, {"E", "e"}},
	api.NIf:     {{"EE(n|E)", "e"}}, api.NReduce: {{"E[vpb]EE", "e"}}, api.NForeach: {{"E[vpb]EE(n|E)", "e"}},
	api.NBind:  {{"E[vp]+E", "e"}, {"[vp][vp]+", "b"}},
	api.NFunc:  {{"a*EE", "e"}, {"a*En", "d"}},
	api.NCall:  {{"E*", "e"}},
	api.PArray: {{"[vp]+", "p"}}, api.PObject: {{"o+", "p"}}, api.PEntry: {{"v[nvp]", "o"}, {"E[vp]", "o"}},
	api.NModule: {{"[nm]i*d*(n|E)", "M"}}, api.NMeta: {{"k", "m"}}, api.NImport: {{"[nt][nk]", "i"}},
}

// rules are the forms as regular expressions.
var rules = map[api.NodeKind][]*regexp.Regexp{}

func init() {
	long := strings.NewReplacer("E", "[xskcje]", "C", "[xskc]")
	for kind, l := range forms {
		for _, f := range l {
			rules[kind] = append(rules[kind], regexp.MustCompile("^("+long.Replace(f.parts)+")$"))
		}
	}
}

// letter answers what a node is.
func letter(x api.Node) string {
	if !ownModel(x) {
		return "-"
	}
	letters := ""
	for _, part := range x.Sub {
		letters += letter(part)
	}
	ask := asked{x.Kind, letters}
	if told[ask] == "" {
		told[ask] = "-"
		for i, rule := range rules[x.Kind] {
			if rule.MatchString(letters) {
				told[ask] = forms[x.Kind][i].letter
				break
			}
		}
	}
	return finer(x, told[ask])
}

// told keeps what the rules have told, as they are asked the same very often.
var told = map[asked]string{}

type asked struct {
	kind    api.NodeKind
	letters string
}

// finer answers what a node is of which its parts tell a letter, by what else it has.
func finer(x api.Node, letter string) string {
	if letter == "-" {
		return letter
	}
	switch x.Kind {
	case api.NString:
		if x.Text != "" {
			return "e"
		}
	case api.NCall:
		if len(x.Sub) == 0 && constantForm.MatchString(x.Text) {
			return "c"
		}
	case api.NImport:
		name := x.Sub[0]
		if x.N == 0 && name.Kind == api.NNone || x.N == 1 && name.Kind == api.NText && calledModel(name.Text) || x.N == 2 && name.Kind == api.NText && boundModel(name.Text) {
			return letter
		}
		return "-"
	}
	return letter
}

func calledModel(name string) bool {
	return plainForm.MatchString(name) && !wordForm.MatchString(name)
}

func boundModel(name string) bool {
	return plainForm.MatchString(name) && name != "__loc__"
}

// ownModel tells whether a node's own fields may be.
func ownModel(x api.Node) bool {
	if x.M != 0 || x.N < 0 {
		return false
	}
	if x.Kind == api.NNumber && !(x.Num > 0) && math.Float64bits(x.Num) != 0 || x.Kind != api.NNumber && math.Float64bits(x.Num) != 0 {
		return false
	}
	return (x.N == 0 || x.N <= mostModel(x.Kind)) && textModel(x)
}

func mostModel(kind api.NodeKind) int {
	switch kind {
	case api.NParam:
		return 1
	case api.NImport:
		return 2
	case api.NLoc:
		return math.MaxInt
	}
	return 0
}

func textModel(x api.Node) bool {
	switch x.Kind {
	case api.NString:
		return x.Text == "" || formatForm.MatchString(x.Text)
	case api.NFormat:
		return formatForm.MatchString(x.Text)
	case api.NText:
		return x.Text != "" && utf8.ValidString(x.Text)
	case api.NImport:
		return utf8.ValidString(x.Text)
	case api.NUpdate:
		return updateForm.MatchString(x.Text)
	case api.NCompare:
		return compareForm.MatchString(x.Text)
	case api.NBinary:
		return binaryForm.MatchString(x.Text)
	case api.NFunc:
		return calledModel(x.Text)
	case api.NParam:
		return x.N == 0 && calledModel(x.Text) || x.N == 1 && boundModel(x.Text)
	case api.NCall:
		return nameForm.MatchString(x.Text) && !wordForm.MatchString(x.Text)
	case api.NVar:
		return nameForm.MatchString(x.Text) && x.Text != "__loc__"
	case api.NLabel, api.NBreak, api.PVar:
		return boundModel(x.Text)
	}
	return x.Text == ""
}

func deepModel(x api.Node) int {
	out := 0
	for _, part := range x.Sub {
		out = max(out, deepModel(part))
	}
	return out + 1
}

// checkModel answers what Check does.
func checkModel(x api.Node) api.Errno {
	if deepModel(x) <= 256 && strings.Contains("xskcjeM", letter(x)) {
		return 0
	}
	return 150
}

// The tests' own model of how trees are written: by the chapter's table, in which a number stands for the next part.

var written = map[string]string{
	"none": "", ".": ".", "..": "..", "index": "20 [ 0 ]", "each": "20 [ ]", "neg": "- 16", "|": "2 | 0", ",": "2 , 4", "//": "6 // 4", "or": "8 or 10", "and": "10 and 12",
	"=": "8 TEXT 8", "==": "14 TEXT 14", "+": "14 TEXT 15", "*": "16 TEXT 18", "format": "TEXT", "var": "$TEXT", "pvar": "$TEXT", "loc": "$__loc__", "label": "label $TEXT | 0", "break": "break $TEXT", "slice": "20 [ 0 : 0 ]", "meta": "module 0 ;",
}

// formWritten answers the table's row for a node.
func formWritten(x api.Node) string {
	if x.Kind == api.NBinary && strings.Contains("*/%", x.Text) {
		return written["*"]
	}
	for name, form := range written {
		if name != "*" && kindOf(name) == x.Kind {
			return form
		}
	}
	l, last := x.Sub, len(x.Sub)-1
	switch x.Kind {
	case api.NTry:
		return []string{"20 ?", "try 20 catch 20"}[last]
	case api.NArray:
		return []string{"[ ]", "[ 0 ]"}[len(l)]
	case api.NIf:
		return "if 0 then 0" + unlessNone(l[2], " else 0") + " end"
	case api.NReduce:
		return "reduce 20 as PATTERNS ( 0 ; 0 )"
	case api.NForeach:
		return "foreach 20 as PATTERNS ( 0 ; 0" + unlessNone(l[4], " ; 0") + " )"
	case api.NBind:
		return "20 as " + several("0", last-1, " ?// ") + " | 0"
	case api.NFunc:
		return "def TEXT " + inParens(last-1) + " : 0 ; 0"
	case api.NCall:
		return "TEXT " + inParens(len(l))
	case api.NObject, api.PObject:
		return "{ " + several("0", len(l), " , ") + " }"
	case api.PArray:
		return "[ " + several("0", len(l), " , ") + " ]"
	case api.NEntry:
		return keyWritten(l[0], api.NVar) + " : 20"
	case api.PEntry:
		return keyWritten(l[0], api.PVar) + unlessNone(l[1], " : 0")
	case api.NModule:
		if l[last].Kind == api.NFunc {
			return several("0", last, " ") + " 1"
		}
		return several("0", len(l), " ")
	}
	panic(x.Kind)
}

func unlessNone(x api.Node, form string) string {
	if x.Kind == api.NNone {
		return ""
	}
	return form
}

func several(form string, n int, between string) string {
	return strings.Join(strings.Fields(strings.Repeat(form+" ", n)), between)
}

func inParens(n int) string {
	if n == 0 {
		return ""
	}
	return "( " + several("0", n, " ; ") + " )"
}

func keyWritten(x api.Node, bare api.NodeKind) string {
	if x.Kind == api.NString || x.Kind == bare {
		return "0"
	}
	return "( 0 )"
}

// levelModel answers the level that the table tells.
func levelModel(x api.Node) int {
	switch x.Kind {
	case api.NBinary:
		if strings.Contains("+-", x.Text) {
			return 14
		}
		return 16
	case api.NTry:
		return 22 - 2*len(x.Sub)
	}
	for i, row := range [][]api.NodeKind{
		{api.NPipe, api.NBind, api.NFunc, api.NLabel}, {api.NComma}, {api.NAlt}, {api.NUpdate}, {api.NOr}, {api.NAnd}, {api.NCompare}, {}, {}, {}, {api.NIndex, api.NSlice, api.NEach},
	} {
		for _, kind := range row {
			if kind == x.Kind {
				return 2 * i
			}
		}
	}
	if x.Kind == api.NNeg {
		return 15
	}
	return 22
}

// textOf writes a tree that may be, with more blanks than need be.
func textOf(x api.Node) string {
	switch x.Kind {
	case api.NNumber:
		if math.IsInf(x.Num, 1) {
			return "1e999"
		}
		return strconv.FormatFloat(x.Num, 'f', -1, 64)
	case api.NString:
		out := x.Text + " \""
		for _, part := range x.Sub {
			if part.Kind == api.NText {
				out += escaped(part.Text)
			} else {
				out += "\\( " + textOf(part) + " )"
			}
		}
		return out + "\""
	case api.NImport:
		return []string{"include", "import", "import"}[x.N] + ` "` + escaped(x.Text) + `" ` + []string{"", "as ", "as $"}[x.N] + x.Sub[0].Text + " " + textOf(x.Sub[1]) + " ;"
	case api.NParam:
		return []string{"", "$"}[x.N] + x.Text
	}
	out, next := "", 0
	for _, word := range strings.Fields(formWritten(x)) {
		level, err := strconv.Atoi(word)
		switch {
		case err == nil && levelModel(x.Sub[next]) < level:
			out += "( " + textOf(x.Sub[next]) + " )"
			next++
		case err == nil:
			out += textOf(x.Sub[next])
			next++
		case word == "PATTERNS":
			out += patternsOf(x.Sub[next])
			next++
		default:
			out += strings.Replace(word, "TEXT", x.Text, 1)
		}
		out += " "
	}
	return out
}

func patternsOf(x api.Node) string {
	if x.Kind != api.NBind {
		return textOf(x)
	}
	var out []string
	for _, p := range x.Sub {
		out = append(out, textOf(p))
	}
	return strings.Join(out, " ?// ")
}

// escaped writes each code point of a string's piece as an escape, or as it is.
func escaped(s string) string {
	out := ""
	for _, r := range s {
		if r < 0x10000 {
			out += fmt.Sprintf(`\u%04X`, r)
		} else {
			out += string(r)
		}
	}
	return out
}
