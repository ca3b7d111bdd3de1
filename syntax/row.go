package syntax

import (
	"math"
	"slices"
	"strings"

	"colander/api"
)

// eachRow does something with a row of nodes, and then with the rows of their parts. It keeps in a list which rows are left, as trees may be deeper than calls.
func eachRow(row []api.Node, do func([]api.Node)) {
	left := [][]api.Node{row}
	for len(left) > 0 {
		row := left[len(left)-1]
		left = left[:len(left)-1]
		do(row)
		for _, x := range row {
			if len(x.Sub) > 0 {
				left = append(left, x.Sub)
			}
		}
	}
}

// levels counts the levels of a row of nodes, so many at most.
func levels(row []api.Node, most int) int {
	deepest := 0
	for _, x := range row {
		if deepest == most {
			break
		}
		deepest = max(deepest, 1+levels(x.Sub, most-1))
	}
	return deepest
}

// pair is two rows of nodes that are to be alike.
type pair struct {
	a []api.Node
	b []api.Node
}

// isLike tells whether two nodes are alike but for spots and for their parts.
func isLike(x, y api.Node) bool {
	return x.Kind == y.Kind && x.Text == y.Text && isLikeNumber(x.Num, y.Num) && x.M == y.M && (x.N == y.N || x.Kind == api.NLoc)
}

func isLikeNumber(f, g float64) bool {
	return math.Float64bits(f) == math.Float64bits(g) || f != f && g != g
}

// bareNode answers a node without its spot, in memory of its own; its parts keep theirs.
func bareNode(x api.Node) api.Node {
	x.At = api.Spot{}
	if x.Kind == api.NLoc {
		x.N = 0
	}
	x.Text = strings.Clone(x.Text)
	x.Sub = append([]api.Node(nil), x.Sub...)
	return x
}

// all tells whether all nodes of a row may stand where they do.
func all(row []api.Node, may role) bool {
	return !slices.ContainsFunc(row, func(x api.Node) bool { return !may(x) })
}

// inTurn tells whether a row has as many nodes as there are roles, and each one its own.
func inTurn(row []api.Node, roles ...role) bool {
	if len(row) != len(roles) {
		return false
	}
	for i, may := range roles {
		if !may(row[i]) {
			return false
		}
	}
	return true
}
