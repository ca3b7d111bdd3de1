package sample

import (
	"slices"
	"strings"

	"colander/api"
)

// SamePat tells whether two trees of patterns are the same in all their fields; nil and empty lists are.
func SamePat(p, q api.Pat) bool {
	return p.Kind == q.Kind && p.N == q.N && p.Text == q.Text && p.Not == q.Not && p.Back == q.Back && p.Min == q.Min && p.Max == q.Max && p.Mode == q.Mode &&
		slices.Equal(p.Ranges, q.Ranges) && slices.EqualFunc(p.Sub, q.Sub, SamePat)
}

// ApartPat answers a tree of a pattern in memory of its own.
func ApartPat(p api.Pat) api.Pat {
	p.Text = strings.Clone(p.Text)
	p.Ranges = slices.Clone(p.Ranges)
	p.Sub = slices.Clone(p.Sub)
	for i := range p.Sub {
		p.Sub[i] = ApartPat(p.Sub[i])
	}
	return p
}
