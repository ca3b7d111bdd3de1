package matcher_test

import (
	"testing"

	"colander/api"
	"colander/matcher"
)

// P10.1

func TestFlagsByHand(t *testing.T) {
	for s, want := range map[string]api.Rules{
		"":        {},
		"g":       {Global: true},
		"i":       {Fold: true},
		"x":       {Extended: true},
		"n":       {Full: true},
		"l":       {Longest: true},
		"p":       {Dot: true},
		"s":       {},
		"ss":      {},
		"gs":      {Global: true},
		"gg":      {Global: true},
		"xgx":     {Global: true, Extended: true},
		"gixsnlp": {Global: true, Fold: true, Dot: true, Longest: true, Full: true, Extended: true},
		"plnsxig": {Global: true, Fold: true, Dot: true, Longest: true, Full: true, Extended: true},
	} {
		if got, ok := matcher.Flags(s); got != want || !ok {
			t.Errorf("Flags(%q) = %+v, %v", s, got, ok)
		}
	}
}

func TestFlagsThatAreNone(t *testing.T) {
	for _, s := range []string{"a", "G", "I", "ga", "ag", "gixsnlpq", "g ", " g", "\x00", "g\x00", "\xff", "g\xe9", "é", "gé", "ｇ", "g,i", "gi\n", "-g"} {
		if got, ok := matcher.Flags(s); got != (api.Rules{}) || ok {
			t.Errorf("Flags(%q) = %+v, %v", s, got, ok)
		}
	}
	for c := range 256 {
		s := "gi" + string([]byte{byte(c)})
		_, ok := matcher.Flags(s)
		known := c == 'g' || c == 'i' || c == 'x' || c == 's' || c == 'n' || c == 'l' || c == 'p'
		if ok != known {
			t.Errorf("Flags(%q) knows it: %v", s, ok)
		}
	}
}
