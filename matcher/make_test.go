package matcher_test

import (
	"math/rand"
	"slices"
	"strconv"
	"strings"
	"testing"

	"colander/api"
	"colander/matcher"
	"colander/regex"
)

// How the tests make patterns and rules, and how they write hits.

// parsed is the tree of a pattern that may be.
func parsed(t *testing.T, pattern, flags string) (api.Pat, api.Rules) {
	t.Helper()
	r, ok := matcher.Flags(flags)
	p, at, code := regex.Parse(pattern, r.Extended)
	if !ok || code != api.OK {
		t.Fatalf("%q with %q is no pattern: %d at %d", pattern, flags, code, at)
	}
	return p, r
}

// shown writes a tree for people.
func shown(p api.Pat) string {
	if text, code := regex.Text(p); code == api.OK {
		return strconv.Quote(text)
	}
	return "kind " + strconv.Itoa(int(p.Kind)) + " " + strconv.Itoa(p.Min) + " to " + strconv.Itoa(p.Max) + " mode " + strconv.Itoa(p.Mode) + "(" + shownAll(p.Sub) + ")"
}

func shownAll(l []api.Pat) string {
	var out []string
	for _, p := range l {
		out = append(out, shown(p))
	}
	return strings.Join(out, ", ")
}

func spanText(s api.Span) string {
	if s == (api.Span{From: -1, To: -1}) {
		return "-"
	}
	return strconv.Itoa(s.From) + ":" + strconv.Itoa(s.To)
}

// hitText writes a hit and behind it its groups.
func hitText(h api.Hit) string {
	out := spanText(h.At)
	for _, g := range h.Groups {
		out += " " + spanText(g)
	}
	return out
}

func hitsText(l []api.Hit) string {
	var out []string
	for _, h := range l {
		out = append(out, hitText(h))
	}
	return strings.Join(out, ", ")
}

func sameHit(a, b api.Hit) bool {
	return a.At == b.At && slices.Equal(a.Groups, b.Groups)
}

// checkAt holds At against the model.
func checkAt(t *testing.T, p api.Pat, s string, from int, r api.Rules, fuel int) {
	t.Helper()
	hit, found, steps, code := matcher.At(p, s, from, r, fuel)
	wantHit, wantFound, wantSteps, wantCode := modelAt(p, s, from, r, fuel)
	if !sameHit(hit, wantHit) || found != wantFound || steps != wantSteps || code != wantCode {
		t.Fatalf("At(%s, %q, %d, %+v, %d) = %s, %v, %d, %d, want %s, %v, %d, %d", shown(p), s, from, r, fuel, hitText(hit), found, steps, code, hitText(wantHit), wantFound, wantSteps, wantCode)
	}
}

// checkAll holds All against the model, and tells how many hits there are.
func checkAll(t *testing.T, p api.Pat, s string, r api.Rules, fuel int) int {
	t.Helper()
	hits, steps, code := matcher.All(p, s, r, fuel)
	wantHits, wantSteps, wantCode := modelAll(p, s, r, fuel)
	if !slices.EqualFunc(hits, wantHits, sameHit) || steps != wantSteps || code != wantCode {
		t.Fatalf("All(%s, %q, %+v, %d) = %s, %d, %d, want %s, %d, %d", shown(p), s, r, fuel, hitsText(hits), steps, code, hitsText(wantHits), wantSteps, wantCode)
	}
	return len(hits)
}

// someRules answers any rules.
func someRules(r *rand.Rand) api.Rules {
	some := func() bool { return r.Intn(3) == 0 }
	return api.Rules{Global: r.Intn(2) == 0, Fold: some(), Dot: some(), Longest: some(), Full: some(), Extended: some()}
}

// someText answers a text of at most so many of these pieces.
func someText(r *rand.Rand, most int, pieces string) string {
	l := strings.Split(pieces, "")
	out := ""
	for range r.Intn(most + 1) {
		out += l[r.Intn(len(l))]
	}
	return out
}

// maker makes trees.
type maker struct {
	r      *rand.Rand
	points string // code points that stand in the trees
	plain  bool   // such trees alone as Go's own regular expressions know
	names  []string
}

// tree answers any tree that may be, of at most so many levels below.
func (m *maker) tree(levels int) api.Pat {
	m.names = nil
	p := m.node(levels)
	m.lead(&p)
	return p
}

// lead leads each XBack to a group, now that all are known; without groups it is a code point.
func (m *maker) lead(p *api.Pat) {
	if p.Kind == api.XBack {
		if len(m.names) == 0 {
			*p = m.char()
			return
		}
		i := m.r.Intn(len(m.names))
		if p.Text = m.names[i]; p.Text == "" || m.r.Intn(2) == 0 {
			p.N, p.Text = i+1, ""
		}
	}
	for i := range p.Sub {
		m.lead(&p.Sub[i])
	}
}

func (m *maker) char() api.Pat {
	points := []rune(m.points)
	return api.Pat{Kind: api.XChar, N: int(points[m.r.Intn(len(points))])}
}

func (m *maker) node(levels int) api.Pat {
	if levels == 0 || m.r.Intn(4) == 0 {
		return m.leaf()
	}
	n := 13
	if m.plain {
		n = 10
	}
	switch m.r.Intn(n) {
	case 0, 1, 2:
		return api.Pat{Kind: api.XSeq, Sub: m.some(levels)}
	case 3, 4:
		return api.Pat{Kind: api.XAlt, Sub: m.some(levels)}
	case 5, 6, 7:
		return m.repeat(m.node(levels - 1))
	case 8, 9:
		return m.group(levels)
	case 10:
		return api.Pat{Kind: api.XAtomic, Sub: []api.Pat{m.node(levels - 1)}}
	}
	return api.Pat{Kind: api.XLook, Not: m.r.Intn(3) == 0, Back: m.r.Intn(2) == 0, Sub: []api.Pat{m.node(levels - 1)}}
}

func (m *maker) some(levels int) []api.Pat {
	var out []api.Pat
	for range 2 + m.r.Intn(2) {
		out = append(out, m.node(levels-1))
	}
	return out
}

func (m *maker) group(levels int) api.Pat {
	n := len(m.names) + 1
	name := ""
	if m.r.Intn(2) == 0 {
		name = "g" + strconv.Itoa(n)
	}
	m.names = append(m.names, name)
	return api.Pat{Kind: api.XGroup, N: n, Text: name, Sub: []api.Pat{m.node(levels - 1)}}
}

func (m *maker) repeat(p api.Pat) api.Pat {
	counts := [][2]int{{0, -1}, {0, -1}, {1, -1}, {0, 1}, {0, 0}, {1, 1}, {2, 2}, {2, -1}, {1, 3}, {0, 2}, {2, 3}}
	c := counts[m.r.Intn(len(counts))]
	mode := m.r.Intn(3)
	if m.plain {
		mode = m.r.Intn(2)
	}
	return api.Pat{Kind: api.XRepeat, Min: c[0], Max: c[1], Mode: mode, Sub: []api.Pat{p}}
}

func (m *maker) leaf() api.Pat {
	switch m.r.Intn(10) {
	case 0:
		return api.Pat{Kind: api.XAny}
	case 1:
		return m.set()
	case 2:
		return m.place()
	case 3, 4:
		if !m.plain {
			return api.Pat{Kind: api.XBack}
		}
	}
	return m.char()
}

func (m *maker) place() api.Pat {
	if m.plain {
		kinds := []api.PatKind{api.XStart, api.XStop, api.XWord, api.XNotWord}
		return api.Pat{Kind: kinds[m.r.Intn(len(kinds))]}
	}
	if m.r.Intn(8) == 0 {
		return api.Pat{Kind: api.XEmpty}
	}
	return api.Pat{Kind: api.XBegin + api.PatKind(m.r.Intn(7))}
}

// set answers an XSet of up to three code points, and what lies between two of them.
func (m *maker) set() api.Pat {
	var l []int
	for range 1 + m.r.Intn(3) {
		l = append(l, m.char().N)
	}
	slices.Sort(l)
	ranges := []api.Range{{From: l[0], To: l[len(l)/2]}}
	if last := l[len(l)-1]; last > ranges[0].To+1 {
		ranges = append(ranges, api.Range{From: last, To: last})
	}
	return api.Pat{Kind: api.XSet, Not: m.r.Intn(2) == 0, Ranges: ranges}
}

// TestTreesAreMade holds the maker to Check, and to making all kinds.
func TestTreesAreMade(t *testing.T) {
	m := &maker{r: rand.New(rand.NewSource(1)), points: "ab"}
	var seen [api.XNotWord + 1]int
	var count func(p api.Pat)
	count = func(p api.Pat) {
		seen[p.Kind]++
		for _, part := range p.Sub {
			count(part)
		}
	}
	for range 3000 {
		p := m.tree(4)
		if code := regex.Check(p); code != api.OK {
			t.Fatalf("%+v: %d", p, code)
		}
		count(p)
	}
	for kind := api.XEmpty; kind <= api.XNotWord; kind++ {
		if seen[kind] < 100 {
			t.Errorf("%d nodes of kind %d", seen[kind], kind)
		}
	}
}
