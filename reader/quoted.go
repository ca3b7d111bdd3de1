package reader

import (
	"unicode/utf8"

	"colander/api"
	"colander/runes"
	"colander/scan"
)

// quoted reads a string from its opening quote to the closing one, and answers what it says.
func (s *source) quoted() (string, error) {
	s.at++
	var out []byte
	for !s.isAtEnd() {
		switch c := s.text[s.at]; c {
		case '"':
			s.at++
			return runes.Clean(out), nil
		case '\\':
			point, n := scan.Escape(s.text[s.at:])
			if n == 0 {
				return "", s.refuse(api.ErrEscape, s.at)
			}
			out = utf8.AppendRune(out, point)
			s.at += n
		default:
			out = append(out, c)
			s.at++
		}
	}
	return "", s.refuse(api.ErrEnd, s.at)
}
