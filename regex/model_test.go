package regex_test

import (
	"regexp"
	"slices"
	"strconv"
	"strings"
	"unicode/utf8"

	"colander/api"
)

// The tests hold Parse against a second reader, which tells tokens by Go's own regular expressions and puts them together on a stack. Where no token stands, it looks for the longest beginning of what is left that some ending makes a token.

const (
	nameForm  = `[A-Za-z_][A-Za-z_0-9]{0,31}`
	pointForm = `\\[ntrfvae]|\\x[0-9a-fA-F]{1,2}|\\x\{[0-9a-fA-F]{1,8}\}|\\u[0-9a-fA-F]{4}|\\[^a-zA-Z0-9]`
	classForm = `\\[dDwWsShH]`
	oneForm   = `[^\[\]\\]|\\b|` + pointForm
	posixForm = `\[:\^?(?:alnum|alpha|blank|cntrl|digit|graph|lower|print|punct|space|upper|word|xdigit):\]`
)

// form is a token that may stand at the beginning of a text.
func form(text string) *regexp.Regexp {
	return regexp.MustCompile(`^(?s:` + text + `)`)
}

// wholly is a token that may be the whole of a text.
func wholly(text string) *regexp.Regexp {
	return regexp.MustCompile(`^(?s:` + text + `)$`)
}

var (
	skipForm    = form(`[\t-\r ]|#[^\n]*`)
	commentIs   = form(`\(\?#[^)]*\)`)
	headIs      = form(`\(\?(?:[:>=!]|<[=!]|<` + nameForm + `>)`)
	placeIs     = form(`\^|\$|\\[AzZbB]`)
	classIs     = form(classForm)
	pointIs     = form(pointForm)
	numberIs    = form(`\\[1-9][0-9]*`)
	namedBackIs = form(`\\k<` + nameForm + `>`)
	charIs      = form(`[^*+?|()\[\\^$.]`)
	signIs      = form(`[*+?][?+]?`)
	countsIs    = form(`\{(?:[0-9]{1,4},?|,[0-9]{1,4}|[0-9]{1,4},[0-9]{1,4})\}\??`)
	posixIs     = form(posixForm)
	oneIs       = form(oneForm)

	// What may stand outside of sets, and in them.
	outerWhole = wholly(`\(\?#[^)]*\)|\(\?(?:[:>=!]|<[=!]|<` + nameForm + `>)|\\[AzZbB]|` + classForm + `|` + pointForm + `|\\k<` + nameForm + `>`)
	innerWhole = wholly(posixForm + `|` + classForm + `|` + oneForm)
	oneWhole   = wholly(oneForm)
)

// endings are such that each beginning of a token goes on with one of them.
var endings = endingsOf(`(?#)`, `(?:`, `(?<=`, `(?<a>`, `\k<a>`, `\n`, `\x00`, `\x{0}`, `\u0000`,
	`[:alnum:]`, `[:alpha:]`, `[:blank:]`, `[:cntrl:]`, `[:digit:]`, `[:graph:]`, `[:lower:]`, `[:print:]`, `[:punct:]`, `[:space:]`, `[:upper:]`, `[:word:]`, `[:xdigit:]`)

func endingsOf(tokens ...string) []string {
	var out []string
	for _, token := range tokens {
		for i := range len(token) + 1 {
			out = append(out, token[i:])
		}
	}
	slices.Sort(out)
	return slices.Compact(out)
}

// reach tells how many bytes of text some ending makes a token.
func reach(whole *regexp.Regexp, text string) int {
	const longest = 48 // more than any token has ahead of the byte at which it fails
	var bytes []int    // at which code points begin and end
	for i := range text {
		bytes = append(bytes, i)
	}
	bytes = append(bytes, len(text))
	for _, n := range slices.Backward(bytes[:min(longest, len(bytes))]) {
		for _, ending := range endings {
			if n > 0 && whole.MatchString(text[:n]+ending) {
				return n
			}
		}
	}
	return 0
}

// frame is a parenthesis that is open, with what has been read in it; the outermost one is the whole pattern.
type frame struct {
	head  string
	n     int // of a group
	name  string
	alts  []api.Pat
	parts []api.Pat
}

// modelFault is the panic as which the model gives a pattern up at a byte.
type modelFault int

type model struct {
	text     string
	at       int
	extended bool
	stack    []frame
	names    []string
	backs    []struct {
		at   int
		node api.Pat
	}
}

// modelParse is what Parse has to answer.
func modelParse(text string, extended bool) (p api.Pat, at int, code api.Errno) {
	if len(text) > 4096 {
		return api.Pat{}, 0, api.ErrPat
	}
	defer func() {
		if why := recover(); why != nil {
			p, at, code = api.Pat{}, int(why.(modelFault)), api.ErrPat
		}
	}()
	m := &model{text: text, extended: extended, stack: []frame{{}}}
	for m.at < len(text) {
		m.token()
	}
	if len(m.stack) > 1 {
		panic(modelFault(m.at))
	}
	for _, back := range m.backs {
		if back.node.N > len(m.names) || back.node.Text != "" && !slices.Contains(m.names, back.node.Text) {
			panic(modelFault(back.at))
		}
	}
	return m.stack[0].whole(), 0, api.OK
}

func (m *model) rest() string { return m.text[m.at:] }

func (m *model) top() *frame { return &m.stack[len(m.stack)-1] }

// match goes past a token, and answers it; it answers the empty text, if none stands here.
func (m *model) match(f *regexp.Regexp) string {
	token := f.FindString(m.rest())
	m.at += len(token)
	return token
}

func (m *model) put(p api.Pat) { m.top().parts = append(m.top().parts, p) }

func modelJoin(kind api.PatKind, parts []api.Pat) api.Pat {
	if len(parts) == 0 {
		return empty
	}
	if len(parts) == 1 {
		return parts[0]
	}
	return api.Pat{Kind: kind, Sub: parts}
}

func (f *frame) whole() api.Pat {
	return modelJoin(api.XAlt, append(f.alts, modelJoin(api.XSeq, f.parts)))
}

// token reads what stands next, with the repeat behind it.
func (m *model) token() {
	if m.extended && m.match(skipForm) != "" || m.match(commentIs) != "" {
		return
	}
	at := m.at
	switch {
	case m.rest()[0] == '(':
		m.opening()
	case m.rest()[0] == '|':
		m.at++
		f := m.top()
		f.alts, f.parts = append(f.alts, modelJoin(api.XSeq, f.parts)), nil
	case m.rest()[0] == ')':
		m.closing()
	case m.rest()[0] == '[':
		m.set()
		m.repeat()
	case m.rest()[0] == '.':
		m.at++
		m.put(dot)
		m.repeat()
	case placeIs.MatchString(m.rest()):
		m.put(map[string]api.Pat{"^": begin, "$": end, `\A`: start, `\z`: stop, `\Z`: last, `\b`: word, `\B`: notWord}[m.match(placeIs)])
	case classIs.MatchString(m.rest()):
		m.put(api.Pat{Kind: api.XSet, Ranges: modelRanges(nil, modelClass(m.match(classIs)))})
		m.repeat()
	case numberIs.MatchString(m.rest()):
		n, _ := strconv.Atoi(m.match(numberIs)[1:])
		m.back(at, back(n))
	case namedBackIs.MatchString(m.rest()):
		token := m.match(namedBackIs)
		m.back(at, backTo(token[3:len(token)-1]))
	case pointIs.MatchString(m.rest()):
		m.put(char(modelPoint(m.match(pointIs), at)))
		m.repeat()
	case charIs.MatchString(m.rest()):
		r, _ := utf8.DecodeRuneInString(m.match(charIs))
		m.put(char(int(r)))
		m.repeat()
	default:
		panic(modelFault(at + reach(outerWhole, m.rest())))
	}
}

func (m *model) back(at int, node api.Pat) {
	m.backs = append(m.backs, struct {
		at   int
		node api.Pat
	}{at, node})
	m.put(node)
	m.repeat()
}

func (m *model) opening() {
	at := m.at
	if strings.HasPrefix(m.rest(), "(?#") {
		panic(modelFault(len(m.text))) // it does not end
	}
	if len(m.stack) == 101 {
		panic(modelFault(at))
	}
	f := frame{head: "("}
	isGroup := !strings.HasPrefix(m.rest(), "(?") || strings.HasPrefix(m.rest(), "(?<") && !strings.HasPrefix(m.rest(), "(?<=") && !strings.HasPrefix(m.rest(), "(?<!")
	if isGroup && len(m.names) == 100 {
		panic(modelFault(at))
	}
	if strings.HasPrefix(m.rest(), "(?") {
		if f.head = m.match(headIs); f.head == "" {
			panic(modelFault(at + reach(outerWhole, m.rest())))
		}
		if isGroup {
			f.name = f.head[3 : len(f.head)-1]
		}
	} else {
		m.at++
	}
	if isGroup {
		if f.name != "" && slices.Contains(m.names, f.name) {
			panic(modelFault(at + 3))
		}
		m.names = append(m.names, f.name)
		f.n = len(m.names)
	}
	m.stack = append(m.stack, f)
}

func (m *model) closing() {
	if len(m.stack) == 1 {
		panic(modelFault(m.at))
	}
	m.at++
	f := m.top()
	p := f.whole()
	m.stack = m.stack[:len(m.stack)-1]
	switch {
	case f.n > 0:
		p = group(f.n, f.name, p)
	case f.head == "(?>":
		p = atomic(p)
	case f.head != "(?:":
		m.put(api.Pat{Kind: api.XLook, Not: strings.HasSuffix(f.head, "!"), Back: strings.Contains(f.head, "<"), Sub: []api.Pat{p}})
		return
	}
	m.put(p)
	m.repeat()
}

// repeat reads the repeat of what was put last.
func (m *model) repeat() {
	for m.extended && m.match(skipForm) != "" {
	}
	at := m.at
	parts := m.top().parts
	atom := parts[len(parts)-1]
	mode := func(token string) int {
		if strings.HasSuffix(token[1:], "?") {
			return api.ModeLazy
		}
		if strings.HasSuffix(token[1:], "+") {
			return api.ModeSure
		}
		return api.ModeGreedy
	}
	if token := m.match(signIs); token != "" {
		counts := map[byte][2]int{'*': {0, -1}, '+': {1, -1}, '?': {0, 1}}[token[0]]
		parts[len(parts)-1] = rep(counts[0], counts[1], mode(token), atom)
		return
	}
	token := m.match(countsIs)
	if token == "" {
		return
	}
	counts := strings.Split(strings.Trim(token, "{}?"), ",")
	least, _ := strconv.Atoi("0" + counts[0])
	most := least
	if len(counts) == 2 {
		most = -1
		if counts[1] != "" {
			most, _ = strconv.Atoi(counts[1])
		}
	}
	if least > 1000 || most > 1000 || most != -1 && most < least {
		panic(modelFault(at))
	}
	parts[len(parts)-1] = rep(least, most, mode(token), atom)
}

// modelPoint answers the code point of a token that stands at a byte.
func modelPoint(token string, at int) int {
	if token[0] != '\\' || len(token) == 1 {
		r, _ := utf8.DecodeRuneInString(token)
		return int(r)
	}
	if n, ok := map[string]int{`\n`: 10, `\t`: 9, `\r`: 13, `\f`: 12, `\v`: 11, `\a`: 7, `\e`: 27, `\b`: 8}[token]; ok {
		return n
	}
	if token[1] == 'x' || token[1] == 'u' {
		n, _ := strconv.ParseInt(strings.Trim(token[2:], "{}"), 16, 64)
		if n > 1114111 || n >= 55296 && n <= 57343 {
			panic(modelFault(at))
		}
		return int(n)
	}
	r, _ := utf8.DecodeRuneInString(token[1:])
	return int(r)
}

// set reads a set item by item.
func (m *model) set() {
	m.at++
	p := api.Pat{Kind: api.XSet}
	if strings.HasPrefix(m.rest(), "^") {
		p.Not = true
		m.at++
	}
	var parts []func(n int) bool
	var edges []int
	and := false // was the last token an & by itself?
	one := func() int {
		at := m.at
		token := m.match(oneIs)
		if token == "" {
			panic(modelFault(at + reach(oneWhole, m.rest())))
		}
		if token == "&" && and {
			panic(modelFault(at))
		}
		and = token == "&"
		return modelPoint(token, at)
	}
	for len(parts) == 0 || !strings.HasPrefix(m.rest(), "]") {
		at := m.at
		switch {
		case posixIs.MatchString(m.rest()):
			parts, and = append(parts, modelPosix(m.match(posixIs))), false
			continue
		case classIs.MatchString(m.rest()):
			parts, and = append(parts, modelClass(m.match(classIs))), false
			continue
		case m.rest() == "" || !oneIs.MatchString(m.rest()):
			panic(modelFault(at + reach(innerWhole, m.rest())))
		}
		from := one()
		to := from
		if strings.HasPrefix(m.rest(), "-") && !strings.HasPrefix(m.rest(), "-]") {
			m.at++
			and = false
			to = one()
		}
		if to < from {
			panic(modelFault(at))
		}
		parts = append(parts, func(n int) bool { return n >= from && n <= to })
		edges = append(edges, from, to)
	}
	m.at++
	p.Ranges = modelRanges(edges, parts...)
	m.put(p)
}

// modelClass tells which code points an escape stands for.
func modelClass(token string) func(n int) bool {
	all := map[string]string{"d": "0123456789", "s": "\t\n\v\f\r ", "h": "0123456789abcdefABCDEF",
		"w": "0123456789_abcdefghijklmnopqrstuvwxyzABCDEFGHIJKLMNOPQRSTUVWXYZ"}
	letter := token[1:]
	lower := strings.ToLower(letter)
	return func(n int) bool {
		return (n < 128 && strings.Contains(all[lower], string(rune(n)))) == (letter == lower)
	}
}

// modelPosix tells which code points a posix class stands for.
func modelPosix(token string) func(n int) bool {
	name := strings.Trim(token, "[:^]")
	is := func(n int) bool { return posixHas(name, n) }
	if token[2] == '^' {
		return func(n int) bool { return !is(n) }
	}
	return is
}

func posixHas(name string, n int) bool {
	digit := n >= '0' && n <= '9'
	lower := n >= 'a' && n <= 'z'
	upper := n >= 'A' && n <= 'Z'
	switch name {
	case "alnum":
		return digit || lower || upper
	case "alpha":
		return lower || upper
	case "blank":
		return n == 9 || n == 32
	case "cntrl":
		return n <= 31 || n == 127
	case "digit":
		return digit
	case "graph":
		return n >= 33 && n <= 126
	case "lower":
		return lower
	case "print":
		return n >= 32 && n <= 126
	case "punct":
		return n >= 33 && n <= 126 && !digit && !lower && !upper
	case "space":
		return n >= 9 && n <= 13 || n == 32
	case "upper":
		return upper
	case "word":
		return digit || lower || upper || n == '_'
	}
	return digit || n >= 'a' && n <= 'f' || n >= 'A' && n <= 'F'
}

// modelRanges answers the ranges of the numbers that one of parts has. It asks the numbers around edges and the small ones alone, and takes what lies between two of these as they are.
func modelRanges(edges []int, parts ...func(n int) bool) []api.Range {
	has := func(n int) bool {
		return slices.ContainsFunc(parts, func(part func(n int) bool) bool { return part(n) })
	}
	var out []api.Range
	ahead := -1
	for _, n := range modelPoints(edges) {
		if has(n) {
			if l := len(out); l > 0 && out[l-1].To == ahead && has(n-1) {
				out[l-1].To = n
			} else {
				out = append(out, api.Range{From: n, To: n})
			}
		}
		ahead = n
	}
	return out
}

// modelPoints are the numbers below 130 and those around edges, rising: no class has other edges.
func modelPoints(edges []int) []int {
	var out []int
	for n := range 130 {
		out = append(out, n)
	}
	for _, edge := range append(edges, 1114111) {
		for n := max(edge-1, 0); n <= min(edge+1, 1114111); n++ {
			out = append(out, n)
		}
	}
	slices.Sort(out)
	return slices.Compact(out)
}
