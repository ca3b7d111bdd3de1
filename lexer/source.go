package lexer

import (
	"errors"
	"strconv"
	"strings"

	"colander/api"
	"colander/runes"
	"colander/scan"
)

// refusal is the error as which a fault goes up.
type refusal struct {
	fault api.Fault
}

func (r refusal) Error() string {
	return "error " + strconv.Itoa(int(r.fault.Code)) + " at byte " + strconv.Itoa(r.fault.At.Off)
}

// faultOf answers the fault of a refusal.
func faultOf(err error) api.Fault {
	var why refusal
	if errors.As(err, &why) {
		return why.fault
	}
	return api.Fault{}
}

// source is a text that has been read up to byte at, and the tokens that have been read of it.
type source struct {
	text   string
	at     int
	last   api.Spot // the last token's, so that lines are counted once
	tokens []api.Token
}

// refuse makes the refusal at a byte of the text.
func (s *source) refuse(code api.Errno, off int) error {
	return refusal{api.Fault{Code: code, At: scan.At(s.text, off)}}
}

func (s *source) isAtEnd() bool {
	return s.at == len(s.text)
}

func (s *source) rest() string {
	return s.text[s.at:]
}

// add puts a token, which stands from byte start on, behind the others: a refusal, if it is one too many.
func (s *source) add(t api.Token, start int) error {
	if len(s.tokens) == api.MaxTokens {
		return s.refuse(api.ErrTokens, start)
	}
	s.put(t, start)
	return nil
}

func (s *source) put(t api.Token, start int) {
	s.last = scan.Behind(s.last, s.text[s.last.Off:start])
	t.At = s.last
	t.Text = strings.Clone(t.Text) // an answer is new memory
	s.tokens = append(s.tokens, t)
}

// take adds the token of the next n bytes, and goes behind these.
func (s *source) take(t api.Token, n int) error {
	start := s.at
	s.at += n
	return s.add(t, start)
}

// whole reads all of the text; its end is a token that no limit counts.
func (s *source) whole() error {
	if err := s.code(false); err != nil {
		return err
	}
	s.put(api.Token{Kind: api.TokEnd}, s.at)
	return nil
}

// code reads tokens up to the text's end; within a string no further than up to the ) that ends what is interpolated.
func (s *source) code(within bool) error {
	open := 0
	for {
		s.skipBlanks()
		if s.isAtEnd() {
			return nil
		}
		var err error
		switch s.text[s.at] {
		case '"':
			err = s.quoted()
		case '(':
			open++
			err = s.plain()
		case ')':
			if within && open == 0 {
				return nil
			}
			open--
			err = s.plain()
		default:
			err = s.plain()
		}
		if err != nil {
			return err
		}
	}
}

// skipBlanks goes to the next byte that is no blank and in no remark.
func (s *source) skipBlanks() {
	for !s.isAtEnd() {
		switch s.text[s.at] {
		case '\t', '\n', '\r', ' ':
			s.at++
		case '#':
			remark, _, _ := strings.Cut(s.rest(), "\n")
			s.at += len(remark)
		default:
			return
		}
	}
}

// plain reads a token that is no part of a string.
func (s *source) plain() error {
	token, n := tokenOf(s.rest())
	if n == 0 {
		return s.refuse(api.ErrToken, s.at)
	}
	return s.take(token, n)
}

// quoted reads a string from its opening quote to the closing one, with all that is interpolated in it.
func (s *source) quoted() error {
	quote := s.at
	if err := s.take(api.Token{Kind: api.TokOpen}, 1); err != nil {
		return err
	}
	for {
		if err := s.piece(quote); err != nil {
			return err
		}
		if s.text[s.at] == '"' {
			return s.take(api.Token{Kind: api.TokClose}, 1)
		}
		if err := s.interpolated(quote); err != nil {
			return err
		}
	}
}

// piece reads a string's text up to where it ends or something is interpolated.
func (s *source) piece(quote int) error {
	start := s.at
	var out strings.Builder
text:
	for {
		n := strings.IndexAny(s.rest(), `"\`)
		if n < 0 {
			return s.refuse(api.ErrQuote, quote)
		}
		out.WriteString(runes.Clean([]byte(s.rest()[:n])))
		s.at += n
		switch point, size := scan.Escape(s.rest()); {
		case s.text[s.at] == '"', strings.HasPrefix(s.rest(), into):
			break text
		case size == 0:
			return s.refuse(api.ErrQuote, s.at)
		default:
			out.WriteRune(point)
			s.at += size
		}
	}
	if out.Len() == 0 {
		return nil
	}
	return s.add(api.Token{Kind: api.TokText, Text: out.String()}, start)
}

// into begins what is interpolated in a string.
const into = `\(`

// interpolated reads what is interpolated in the string of a quote.
func (s *source) interpolated(quote int) error {
	if err := s.take(api.Token{Kind: api.TokInto}, len(into)); err != nil {
		return err
	}
	if err := s.code(true); err != nil {
		return err
	}
	if s.isAtEnd() {
		return s.refuse(api.ErrQuote, quote)
	}
	return s.take(api.Token{Kind: api.TokBack}, 1)
}
