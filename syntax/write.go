package syntax

import "colander/api"

// node writes a node of a tree that may be.
func (s *sheet) node(x api.Node) {
	switch x.Kind {
	case api.NIndex, api.NSlice:
		s.postfix(x.Sub[0])
		s.enclosed("[", "]", x.Sub[1:], s.pipe, ":")
	case api.NEach:
		s.postfix(x.Sub[0])
		s.signs("[", "]")
	case api.NTry:
		s.attempt(x.Sub)
	case api.NString:
		s.interpolated(x)
	case api.NArray:
		s.enclosed("[", "]", x.Sub, s.pipe)
	case api.NObject:
		s.enclosed("{", "}", x.Sub, s.entry, ",")
	case api.PArray:
		s.enclosed("[", "]", x.Sub, s.node, ",")
	case api.PObject:
		s.enclosed("{", "}", x.Sub, s.pair, ",")
	case api.NNeg:
		s.signs("-")
		s.part(x.Sub[0], levelProduct)
	case api.NIf:
		s.choice(x.Sub)
	case api.NReduce:
		s.loop("reduce", x.Sub)
	case api.NForeach:
		s.loop("foreach", x.Sub)
	case api.NBind:
		s.binding(x.Sub)
	case api.NFunc:
		s.function(x)
	case api.NLabel:
		s.signs("label")
		s.put(api.TokVar, x.Text)
		s.signs("|")
		s.pipe(x.Sub[0])
	case api.NModule:
		s.module(x.Sub)
	case api.NMeta:
		s.signs("module")
		s.node(x.Sub[0])
		s.signs(";")
	case api.NImport:
		s.brought(x)
	default:
		s.plain(x)
	}
}

// plain writes a node that is an operator's or hardly more than one token; of an NNone nothing.
func (s *sheet) plain(x api.Node) {
	switch x.Kind {
	case api.NNone:
	case api.NIdentity:
		s.signs(".")
	case api.NRecurse:
		s.signs("..")
	case api.NNumber:
		s.tokens = append(s.tokens, api.Token{Kind: api.TokNumber, Num: x.Num})
	case api.NFormat:
		s.put(api.TokFormat, x.Text)
	case api.NCall:
		s.put(api.TokName, x.Text)
		s.given(x.Sub, s.pipe)
	case api.NVar, api.PVar:
		s.put(api.TokVar, x.Text)
	case api.NLoc:
		s.put(api.TokVar, location)
	case api.NBreak:
		s.signs("break")
		s.put(api.TokVar, x.Text)
	default:
		in := infixOf(x)
		s.part(x.Sub[0], in.left)
		s.signs(in.sign)
		s.part(x.Sub[1], in.right)
	}
}

func (s *sheet) attempt(parts []api.Node) {
	if len(parts) == 1 {
		s.postfix(parts[0])
		s.signs("?")
		return
	}
	s.signs("try")
	s.list(parts, s.postfix, "catch")
}

func (s *sheet) interpolated(x api.Node) {
	if x.Text != "" {
		s.put(api.TokFormat, x.Text)
	}
	s.put(api.TokOpen, "")
	for _, part := range x.Sub {
		if part.Kind == api.NText {
			s.put(api.TokText, part.Text)
			continue
		}
		s.put(api.TokInto, "")
		s.pipe(part)
		s.put(api.TokBack, "")
	}
	s.put(api.TokClose, "")
}

// entry writes a key and a value of an object.
func (s *sheet) entry(x api.Node) {
	s.key(x.Sub[0], api.NString, api.NVar)
	s.signs(":")
	s.postfix(x.Sub[1])
}

// pair writes a key and a pattern of a pattern.
func (s *sheet) pair(x api.Node) {
	s.key(x.Sub[0], api.NString, api.PVar)
	s.optional(x.Sub[1], s.node, ":")
}

func (s *sheet) choice(parts []api.Node) {
	s.signs("if")
	s.pipe(parts[0])
	s.signs("then")
	s.pipe(parts[1])
	s.optional(parts[2], s.pipe, "else")
	s.signs("end")
}

func (s *sheet) loop(word string, parts []api.Node) {
	s.signs(word)
	s.postfix(parts[0])
	s.signs("as")
	s.patterns(loopPatterns(parts[1]))
	given := parts[2:]
	if last := len(given) - 1; given[last].Kind == api.NNone {
		given = given[:last]
	}
	s.given(given, s.pipe)
}

// loopPatterns answers the patterns of what a loop binds.
func loopPatterns(x api.Node) []api.Node {
	if x.Kind == api.NBind {
		return x.Sub
	}
	return []api.Node{x}
}

func (s *sheet) patterns(row []api.Node) {
	s.list(row, s.node, "?//")
}

func (s *sheet) binding(parts []api.Node) {
	last := len(parts) - 1
	s.postfix(parts[0])
	s.signs("as")
	s.patterns(parts[1:last])
	s.signs("|")
	s.pipe(parts[last])
}

func (s *sheet) function(x api.Node) {
	body := len(x.Sub) - 2
	s.signs("def")
	s.put(api.TokName, x.Text)
	s.given(x.Sub[:body], s.param)
	s.signs(":")
	s.pipe(x.Sub[body])
	s.signs(";")
	s.pipe(x.Sub[body+1])
}

func (s *sheet) param(x api.Node) {
	s.name(x.Text, x.N)
}

// name writes the name of something that is called (n is 0), or that stands behind a $.
func (s *sheet) name(text string, n int) {
	if n == 0 {
		s.put(api.TokName, text)
	} else {
		s.put(api.TokVar, text)
	}
}

func (s *sheet) module(parts []api.Node) {
	last := len(parts) - 1
	s.list(parts[:last], s.node)
	if body := parts[last]; body.Kind == api.NFunc {
		s.inner(body) // else it would be one of the definitions ahead of the body
	} else {
		s.pipe(body)
	}
}

// brought writes an import.
func (s *sheet) brought(x api.Node) {
	if x.N == 0 {
		s.signs("include")
		s.text(x.Text)
	} else {
		s.signs("import")
		s.text(x.Text)
		s.signs("as")
		s.name(x.Sub[0].Text, x.N-1)
	}
	s.node(x.Sub[1])
	s.signs(";")
}
