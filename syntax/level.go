package syntax

import "colander/api"

// The levels of expressions. A part that is on a lower level than its place asks for stands in parentheses there.
const (
	levelPipe    = 0
	levelComma   = 2
	levelAlt     = 4
	levelUpdate  = 6
	levelOr      = 8
	levelAnd     = 10
	levelCompare = 12
	levelSum     = 14
	levelNeg     = 15
	levelProduct = 16
	levelOperand = 18
	levelPostfix = 20
	levelTerm    = 22
)

// levelOf answers the level of an expression.
func levelOf(x api.Node) int {
	switch x.Kind {
	case api.NPipe, api.NBind, api.NFunc, api.NLabel:
		return levelPipe
	case api.NComma:
		return levelComma
	case api.NAlt:
		return levelAlt
	case api.NUpdate:
		return levelUpdate
	case api.NOr:
		return levelOr
	case api.NAnd:
		return levelAnd
	case api.NCompare:
		return levelCompare
	case api.NBinary:
		if isSum(x) {
			return levelSum
		}
		return levelProduct
	case api.NNeg:
		return levelNeg
	case api.NTry:
		if len(x.Sub) > 1 {
			return levelOperand
		}
		return levelPostfix
	case api.NIndex, api.NSlice, api.NEach:
		return levelPostfix
	}
	return levelTerm
}

func isSum(x api.Node) bool {
	return x.Text == "+" || x.Text == "-"
}

// infix is what stands between two parts, and the levels that their places ask for.
type infix struct {
	left  int
	sign  string
	right int
}

// infixOf answers the infix of an expression of two parts with something between.
func infixOf(x api.Node) infix {
	switch x.Kind {
	case api.NPipe:
		return infix{levelComma, "|", levelPipe}
	case api.NComma:
		return infix{levelComma, ",", levelAlt}
	case api.NAlt:
		return infix{levelUpdate, "//", levelAlt}
	case api.NUpdate:
		return infix{levelOr, x.Text, levelOr}
	case api.NOr:
		return infix{levelOr, "or", levelAnd}
	case api.NAnd:
		return infix{levelAnd, "and", levelCompare}
	case api.NCompare:
		return infix{levelSum, x.Text, levelSum}
	}
	if isSum(x) {
		return infix{levelSum, x.Text, levelNeg}
	}
	return infix{levelProduct, x.Text, levelOperand}
}
