package printer

import (
	"cmp"
	"slices"
	"strings"

	"colander/api"
	"colander/value"
)

// paper is what is written on. Once something found no room, nothing more is written.
type paper struct {
	out  strings.Builder
	room int
	full bool
}

func (p *paper) write(s string) {
	if len(s) > p.room {
		p.full = true
	}
	if p.full {
		return
	}
	p.room -= len(s)
	p.out.WriteString(s)
}

func (p *paper) isFull() bool {
	return p.full
}

// written answers all that was written, if it found room.
func (p *paper) written() (string, api.Errno) {
	if p.full {
		return "", api.ErrMany
	}
	return p.out.String(), api.OK
}

// sheet is a paper on which values are written in a style.
type sheet struct {
	paper
	style api.Style
	step  string // what a level adds to the margin; empty, where all stands on one line
	level int
}

func newSheet(style api.Style) *sheet {
	s := &sheet{paper: paper{room: api.MaxPrint}, style: style}
	s.step = strings.Repeat(" ", style.Indent)
	if style.Tab {
		s.step = "\t"
	}
	return s
}

func (s *sheet) value(v api.Value) {
	switch v.Kind {
	case api.Array:
		s.row("[", "]", len(v.List), func(i int) {
			s.value(v.List[i])
		})
	case api.Object:
		order := s.order(v.Keys)
		s.row("{", "}", len(v.List), func(i int) {
			s.pair(v.Keys[order[i]], v.List[order[i]])
		})
	case api.String:
		s.token(Colour(v), Escape(v.Str, s.style.Ascii))
	default:
		s.token(Colour(v), value.Text(v))
	}
}

// row writes n parts, each of them by one, between brackets.
func (s *sheet) row(open, end string, n int, one func(i int)) {
	s.sign(open)
	s.level++
	for i := 0; i < n && !s.isFull(); i++ {
		if i > 0 {
			s.sign(",")
		}
		s.line()
		one(i)
	}
	s.level--
	if n > 0 {
		s.line()
	}
	s.sign(end)
}

func (s *sheet) pair(key string, v api.Value) {
	s.token(colourOfKeys, Escape(key, s.style.Ascii))
	s.sign(":")
	if s.hasLines() {
		s.write(" ")
	}
	s.value(v)
}

// order answers the places of an object's keys in the order in which they are written.
func (s *sheet) order(keys []string) []int {
	out := make([]int, len(keys))
	for i := range out {
		out[i] = i
	}
	if s.style.Sort {
		slices.SortFunc(out, func(a, b int) int {
			return cmp.Compare(keys[a], keys[b])
		})
	}
	return out
}

func (s *sheet) hasLines() bool {
	return s.step != ""
}

// line begins a new line with its margin. On a full sheet no margin is made: deep within a value it is long.
func (s *sheet) line() {
	if s.hasLines() && !s.isFull() {
		s.write("\n")
		s.write(strings.Repeat(s.step, s.level))
	}
}

func (s *sheet) sign(text string) {
	s.token(colourOfSigns, text)
}

func (s *sheet) token(colour, text string) {
	if !s.style.Colour {
		s.write(text)
		return
	}
	s.write("\x1b[" + colour + "m")
	s.write(text)
	s.write("\x1b[0m")
}
