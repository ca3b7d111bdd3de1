package scan_test

import (
	"math"
	"testing"

	"colander/api"
	"colander/sample"
	"colander/scan"
)

func TestSpots(t *testing.T) {
	sample.EachText([]string{"\n", "\r", "a", "é", "\xff"}, 4, func(s string) {
		for off := range len(s) + 1 {
			want := sample.SpotOf(s, off)
			if got := scan.At(s, off); got != want {
				t.Fatalf("At(%q, %d) = %v, want %v", s, off, got, want)
			}
			if got := scan.Behind(want, s[off:]); got != sample.SpotOf(s, len(s)) {
				t.Fatalf("Behind(%v, %q) = %v", want, s[off:], got)
			}
		}
		if scan.At(s, math.MinInt) != (api.Spot{Line: 1, Col: 1}) || scan.At(s, math.MaxInt) != sample.SpotOf(s, len(s)) {
			t.Fatalf("At of %q far away", s)
		}
	})
}

func TestEscapes(t *testing.T) {
	for _, x := range []struct {
		s     string
		point rune
		n     int
	}{
		{`\"x`, '"', 2}, {`\\`, '\\', 2}, {`\/`, '/', 2}, {`\b`, 8, 2}, {`\f`, 12, 2}, {`\n`, 10, 2}, {`\r`, 13, 2}, {`\t`, 9, 2},
		{`\u0041x`, 'A', 6}, {`\u00e9`, 'é', 6}, {`\u20AC`, '€', 6}, {`\ud83d\ude00x`, 0x1f600, 12}, {`\ud83d`, 0xfffd, 6}, {`\ude00\ud83d`, 0xfffd, 6}, {`\ud83d\u0041`, 0xfffd, 6}, {`\ud83d\u`, 0xfffd, 6}, {`\uffff`, 0xffff, 6}, {`\u0000`, 0, 6},
		{"", 0, 0}, {`\`, 0, 0}, {"n", 0, 0}, {"nn", 0, 0}, {"u0041", 0, 0}, {`"n`, 0, 0}, {`\a`, 0, 0}, {`\u`, 0, 0}, {`\u004`, 0, 0}, {`\u004g`, 0, 0}, {`\u+041`, 0, 0}, {`\u0_41`, 0, 0}, {`\U0041`, 0, 0}, {`\(`, 0, 0}, {`\é`, 0, 0}, {`\N`, 0, 0},
	} {
		if point, n := scan.Escape(x.s); point != x.point || n != x.n {
			t.Errorf("Escape(%q) = %q, %d, want %q, %d", x.s, point, n, x.point, x.n)
		}
	}
}
