package reader

import (
	"math"

	"colander/api"
	"colander/number"
)

// value reads a value that stands on a level.
func (s *source) value(level int) (api.Value, error) {
	c, err := s.sign()
	if err != nil {
		return api.Value{}, err
	}
	if !beginsValue(c) {
		return api.Value{}, s.refuse(api.ErrJSON, s.at)
	}
	if level > api.MaxDepth {
		return api.Value{}, s.refuse(api.ErrDepth, s.at)
	}
	switch c {
	case '[':
		return s.array(level)
	case '{':
		return s.object(level)
	case '"':
		text, err := s.quoted()
		return api.Value{Kind: api.String, Str: text}, err
	}
	return s.word()
}

func beginsValue(c byte) bool {
	return c == '[' || c == '{' || c == '"' || isOfWord(c)
}

func isOfWord(c byte) bool {
	switch c {
	case '_', '+', '-', '.':
		return true
	}
	return c >= '0' && c <= '9' || c >= 'a' && c <= 'z' || c >= 'A' && c <= 'Z'
}

func (s *source) array(level int) (api.Value, error) {
	out := api.Value{Kind: api.Array}
	err := s.list(']', func() error {
		v, err := s.value(level + 1)
		out.List = append(out.List, v)
		return err
	})
	return out, err
}

func (s *source) object(level int) (api.Value, error) {
	out := api.Value{Kind: api.Object}
	places := map[string]int{}
	err := s.list('}', func() error {
		key, err := s.key()
		if err != nil {
			return err
		}
		v, err := s.value(level + 1)
		if err != nil {
			return err
		}
		if at, ok := places[key]; ok {
			out.List[at] = v
			return nil
		}
		places[key] = len(out.Keys)
		out.Keys = append(out.Keys, key)
		out.List = append(out.List, v)
		return nil
	})
	return out, err
}

// list reads from an opening bracket to the closing one; each part between is read by one.
func (s *source) list(end byte, one func() error) error {
	s.at++
	c, err := s.sign()
	if err != nil {
		return err
	}
	if c == end {
		s.at++
		return nil
	}
	for {
		if err := one(); err != nil {
			return err
		}
		c, err := s.sign()
		if err != nil {
			return err
		}
		if c != end && c != ',' {
			return s.refuse(api.ErrJSON, s.at)
		}
		s.at++
		if c == end {
			return nil
		}
	}
}

// key reads an object's key, and the colon behind it.
func (s *source) key() (string, error) {
	if err := s.expect('"'); err != nil {
		return "", err
	}
	key, err := s.quoted()
	if err != nil {
		return "", err
	}
	if err := s.expect(':'); err != nil {
		return "", err
	}
	s.at++
	return key, nil
}

// expect goes to what stands behind the blanks, which must begin with a byte.
func (s *source) expect(want byte) error {
	c, err := s.sign()
	if err == nil && c != want {
		return s.refuse(api.ErrJSON, s.at)
	}
	return err
}

func (s *source) word() (api.Value, error) {
	start := s.at
	for !s.isAtEnd() && isOfWord(s.text[s.at]) {
		s.at++
	}
	word := s.text[start:s.at]
	switch word {
	case "null":
		return api.Value{Kind: api.Null}, nil
	case "false":
		return api.Value{Kind: api.False}, nil
	case "true":
		return api.Value{Kind: api.True}, nil
	case "nan":
		return api.Value{Kind: api.Number, Num: math.NaN()}, nil
	}
	f, e := number.Parse(word)
	if e != api.OK {
		return api.Value{}, s.refuse(api.ErrLiteral, start)
	}
	return api.Value{Kind: api.Number, Num: f}, nil
}
