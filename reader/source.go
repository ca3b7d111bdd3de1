package reader

import (
	"errors"
	"strings"

	"colander/api"
	"colander/value"
)

// refusal is the error as which a fault goes up.
type refusal struct {
	fault api.Fault
}

func (r refusal) Error() string {
	return Tell(r.fault)
}

// faultOf answers the fault of a refusal; of no error none.
func faultOf(err error) api.Fault {
	var why refusal
	if errors.As(err, &why) {
		return why.fault
	}
	return api.Fault{}
}

// source is a text that has been read up to byte at.
type source struct {
	text string
	at   int
}

// refuse makes the refusal at a byte of the text.
func (s *source) refuse(code api.Errno, off int) error {
	return refusal{api.Fault{Code: code, At: At(s.text, off)}}
}

// next reads the value that stands next, and tells whether there is one; with a refusal the value is zero.
func (s *source) next() (api.Value, bool, error) {
	if len(s.text) > api.MaxText {
		return api.Value{}, false, refusal{api.Fault{Code: api.ErrLarge}}
	}
	s.skipBlanks()
	if s.isAtEnd() {
		return api.Value{}, false, nil
	}
	start := s.at
	v, err := s.value(1)
	if err != nil {
		return api.Value{}, false, err
	}
	// The whole is asked alone, at its end: what is too large within it may yet make room for a later value of its key.
	if value.Large(v) {
		return api.Value{}, false, s.refuse(api.ErrLarge, start)
	}
	return v, true, nil
}

// only reads the value that stands alone in the text; with a refusal the value is zero.
func (s *source) only() (api.Value, error) {
	v, ok, err := s.next()
	if err != nil {
		return api.Value{}, err
	}
	if !ok {
		return api.Value{}, s.refuse(api.ErrEnd, s.at)
	}
	s.skipBlanks()
	if !s.isAtEnd() {
		return api.Value{}, s.refuse(api.ErrJSON, s.at)
	}
	return v, nil
}

func (s *source) isAtEnd() bool {
	return s.at == len(s.text)
}

func (s *source) skipBlanks() {
	for !s.isAtEnd() && s.isAtBlank() {
		s.at++
	}
}

func (s *source) isAtBlank() bool {
	switch s.text[s.at] {
	case '\t', '\n', '\r', ' ':
		return true
	}
	// Each byte of the mark is asked for by itself, as reading may begin within it.
	const mark = "\xef\xbb\xbf"
	return s.at < len(mark) && strings.HasPrefix(s.text, mark)
}

// sign goes to what stands behind the blanks, and answers its first byte; the text may not end there.
func (s *source) sign() (byte, error) {
	s.skipBlanks()
	if s.isAtEnd() {
		return 0, s.refuse(api.ErrEnd, s.at)
	}
	return s.text[s.at], nil
}
