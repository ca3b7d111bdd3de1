package syntax

import (
	"slices"
	"strings"

	"colander/api"
	"colander/lexer"
)

// sheet is what tokens are written on.
type sheet struct {
	tokens []api.Token
}

// put writes a token.
func (s *sheet) put(kind api.TokenKind, text string) {
	s.tokens = append(s.tokens, api.Token{Kind: kind, Text: strings.Clone(text)}) // an answer is new memory
}

// signs writes signs, and words, which are as fixed as these.
func (s *sheet) signs(texts ...string) {
	for _, text := range texts {
		if lexer.Word(text) {
			s.put(api.TokWord, text)
		} else {
			s.put(api.TokSign, text)
		}
	}
}

// part writes an expression in a place that asks for a level; of an NNone nothing.
func (s *sheet) part(x api.Node, level int) {
	if levelOf(x) < level {
		s.inner(x)
	} else {
		s.node(x)
	}
}

// pipe writes an expression in a place that asks for nothing.
func (s *sheet) pipe(x api.Node) {
	s.part(x, levelPipe)
}

// postfix writes an expression in a place in which operators stand in parentheses.
func (s *sheet) postfix(x api.Node) {
	s.part(x, levelPostfix)
}

// list writes the nodes of a row with signs between each two.
func (s *sheet) list(row []api.Node, write func(api.Node), between ...string) {
	for i, x := range row {
		if i > 0 {
			s.signs(between...)
		}
		write(x)
	}
}

// enclosed writes a list between two signs.
func (s *sheet) enclosed(first, last string, row []api.Node, write func(api.Node), between ...string) {
	s.signs(first)
	s.list(row, write, between...)
	s.signs(last)
}

// inner writes a node in parentheses.
func (s *sheet) inner(x api.Node) {
	s.signs("(")
	s.node(x)
	s.signs(")")
}

// given writes what stands behind a name or a loop: nothing of no nodes.
func (s *sheet) given(row []api.Node, write func(api.Node)) {
	if len(row) > 0 {
		s.enclosed("(", ")", row, write, ";")
	}
}

// optional writes a node with signs ahead of it: nothing of an NNone.
func (s *sheet) optional(x api.Node, write func(api.Node), ahead ...string) {
	if x.Kind != api.NNone {
		s.signs(ahead...)
		write(x)
	}
}

// key writes a key, in parentheses if it is not of one of the kinds.
func (s *sheet) key(x api.Node, bare ...api.NodeKind) {
	if slices.Contains(bare, x.Kind) {
		s.node(x)
	} else {
		s.inner(x)
	}
}

// text writes a string in which nothing is interpolated.
func (s *sheet) text(text string) {
	s.put(api.TokOpen, "")
	if text != "" {
		s.put(api.TokText, text)
	}
	s.put(api.TokClose, "")
}
