package stream

import (
	"strings"

	"colander/api"
	"colander/reader"
)

// source is a text that has been read up to byte at, whom its events are given to, and the fault at which it came to an end.
type source struct {
	text  string
	at    int
	give  func(api.Value) bool
	fault api.Fault
}

// events gives the events of the text's values, up to the first fault.
func (s *source) events(give func(api.Value) bool) {
	s.give = give
	if len(s.text) > api.MaxText {
		s.fault = api.Fault{Code: api.ErrLarge}
		return
	}
	for s.skipBlanks(); !s.isAtEnd(); s.skipBlanks() {
		if !s.value(nil) {
			return
		}
	}
}

// value reads the value that stands next, to which keys lead. It tells whether reading goes on, as all do that read.
func (s *source) value(keys []api.Value) bool {
	c, ok := s.sign()
	if !ok {
		return false
	}
	switch c {
	case '[':
		n := -1
		return s.list(keys, api.Array, ']', func() (api.Value, bool) {
			n++
			return place(n), true
		})
	case '{':
		return s.list(keys, api.Object, '}', s.key)
	}
	return s.leaf(keys)
}

// isTooDeep tells whether what keys lead to stands on a level that no value may have.
func isTooDeep(keys []api.Value) bool {
	return len(keys) > maxParts
}

// list reads an array or an object; what stands ahead of each part's text is read by key, which answers the part's key.
func (s *source) list(keys []api.Value, kind api.Kind, end byte, key func() (api.Value, bool)) bool {
	if isTooDeep(keys) {
		return s.refuse(api.ErrDepth)
	}
	s.at++
	c, ok := s.sign()
	if !ok {
		return false
	}
	if c == end {
		s.at++
		return s.give(trailOf(keys).leaf(api.Value{Kind: kind}))
	}
	for {
		k, ok := key()
		if !ok {
			return false
		}
		last := append(keys, k)
		if !s.value(last) {
			return false
		}
		c, ok := s.sign()
		if !ok {
			return false
		}
		if c != end && c != ',' {
			return s.refuse(api.ErrJSON)
		}
		s.at++
		if c == end {
			return s.give(trailOf(last).end())
		}
	}
}

// leaf reads a string or a word. A byte that begins neither is refused as such, whatever the level is.
func (s *source) leaf(keys []api.Value) bool {
	v, end, _, fault := reader.One(s.text, s.at)
	if isTooDeep(keys) && fault.Code != api.ErrJSON {
		return s.refuse(api.ErrDepth)
	}
	if fault.Code != api.OK {
		s.fault = fault
		return false
	}
	s.at = end
	return s.give(trailOf(keys).leaf(v))
}

// key reads an object's key, and the colon behind it. A key is read as a value of its own, so that it may be too large by itself.
func (s *source) key() (api.Value, bool) {
	if !s.expect('"') {
		return api.Value{}, false
	}
	key, end, ok, fault := reader.One(s.text, s.at)
	if !ok {
		s.fault = fault
		return api.Value{}, false
	}
	s.at = end
	if !s.expect(':') {
		return api.Value{}, false
	}
	s.at++
	return key, true
}

// expect goes to what stands behind the blanks, which must begin with a byte.
func (s *source) expect(want byte) bool {
	c, ok := s.sign()
	if ok && c != want {
		return s.refuse(api.ErrJSON)
	}
	return ok
}

// sign goes to what stands behind the blanks, and answers its first byte; the text may not end there.
func (s *source) sign() (byte, bool) {
	s.skipBlanks()
	if s.isAtEnd() {
		return 0, s.refuse(api.ErrEnd)
	}
	return s.text[s.at], true
}

// refuse makes the fault at the byte that is read next.
func (s *source) refuse(code api.Errno) bool {
	s.fault = api.Fault{Code: code, At: reader.At(s.text, s.at)}
	return false
}

func (s *source) isAtEnd() bool {
	return s.at == len(s.text)
}

func (s *source) skipBlanks() {
	const mark = "\xef\xbb\xbf"
	if s.at == 0 && strings.HasPrefix(s.text, mark) {
		s.at = len(mark)
	}
	for !s.isAtEnd() && isBlank(s.text[s.at]) {
		s.at++
	}
}

func isBlank(c byte) bool {
	switch c {
	case '\t', '\n', '\r', ' ':
		return true
	}
	return false
}
