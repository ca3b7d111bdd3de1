package syntax

import (
	"slices"

	"colander/api"
)

// role tells whether a node may stand in some place.
type role = func(api.Node) bool

// of answers the role of nodes of some kinds.
func of(kinds ...api.NodeKind) role {
	return func(x api.Node) bool {
		return slices.Contains(kinds, x.Kind) && mayBe(x)
	}
}

// either answers the role of what one of two roles takes.
func either(one, other role) role {
	return func(x api.Node) bool { return one(x) || other(x) }
}

// isWhole tells whether a node may stand alone.
func isWhole(x api.Node) bool {
	return either(of(api.NModule), isExpression)(x)
}

func isExpression(x api.Node) bool {
	switch x.Kind {
	case api.NText, api.NEntry, api.NParam:
		return false
	}
	return x.Kind >= api.NIdentity && x.Kind <= api.NBreak && mayBe(x)
}

// isOptional tells whether a node is an expression, or stands for one that is left out.
func isOptional(x api.Node) bool {
	return either(of(api.NNone), isExpression)(x)
}

func isPattern(x api.Node) bool {
	return of(api.PVar, api.PArray, api.PObject)(x)
}

// arePatterns tells whether a node is what a loop binds: a pattern, or an NBind of nothing but patterns.
func arePatterns(x api.Node) bool {
	if x.Kind == api.NBind {
		return hasItsOwn(x) && len(x.Sub) > 1 && all(x.Sub, isPattern)
	}
	return isPattern(x)
}

// isDefinition tells whether a node is a function with nothing behind it.
func isDefinition(x api.Node) bool {
	return x.Kind == api.NFunc && hasItsOwn(x) && isFunction(x.Sub, of(api.NNone))
}

// mayBe tells whether a node may be that is of one of the kinds.
func mayBe(x api.Node) bool {
	return hasItsOwn(x) && hasItsParts(x)
}

// hasItsParts tells whether the parts of a node may be its parts.
func hasItsParts(x api.Node) bool {
	switch l := x.Sub; x.Kind {
	case api.NIndex, api.NEntry, api.NPipe, api.NComma, api.NAlt, api.NUpdate, api.NOr, api.NAnd, api.NCompare, api.NBinary:
		return inTurn(l, isExpression, isExpression)
	case api.NSlice:
		return inTurn(l, isExpression, isOptional, isOptional) && (l[1].Kind != api.NNone || l[2].Kind != api.NNone)
	case api.NEach, api.NNeg, api.NLabel:
		return inTurn(l, isExpression)
	case api.NTry:
		return inTurn(l, isExpression) || inTurn(l, isExpression, isExpression)
	case api.NString:
		return isString(l)
	case api.NArray:
		return len(l) == 0 || inTurn(l, isExpression)
	case api.NObject:
		return all(l, of(api.NEntry))
	case api.NIf:
		return inTurn(l, isExpression, isExpression, isOptional)
	case api.NReduce:
		return inTurn(l, isExpression, arePatterns, isExpression, isExpression)
	case api.NForeach:
		return inTurn(l, isExpression, arePatterns, isExpression, isExpression, isOptional)
	case api.NBind:
		return isBinding(l)
	case api.NFunc:
		return isFunction(l, isExpression)
	case api.NCall:
		return all(l, isExpression)
	case api.PArray:
		return len(l) > 0 && all(l, isPattern)
	case api.PObject:
		return len(l) > 0 && all(l, of(api.PEntry))
	case api.PEntry:
		return inTurn(l, of(api.PVar), either(of(api.NNone), isPattern)) || inTurn(l, isExpression, isPattern)
	case api.NModule:
		return isModule(l)
	case api.NMeta:
		return inTurn(l, isData)
	case api.NImport:
		return inTurn(l, aliasOf(x.N), either(of(api.NNone), isData))
	}
	return len(x.Sub) == 0
}

func isString(parts []api.Node) bool {
	for i, x := range parts {
		if i > 0 && x.Kind == api.NText && parts[i-1].Kind == api.NText {
			return false
		}
	}
	return all(parts, either(of(api.NText), isExpression))
}

func isBinding(parts []api.Node) bool {
	last := len(parts) - 1
	return last > 1 && isExpression(parts[0]) && all(parts[1:last], isPattern) && isExpression(parts[last])
}

// isFunction tells whether a row is the parts of a function behind which a node of some role stands.
func isFunction(parts []api.Node, behind role) bool {
	body := len(parts) - 2
	return body >= 0 && all(parts[:body], of(api.NParam)) && inTurn(parts[body:], isExpression, behind)
}

func isModule(parts []api.Node) bool {
	last := len(parts) - 1
	if last < 1 || !of(api.NMeta, api.NNone)(parts[0]) || !isOptional(parts[last]) {
		return false
	}
	middle := parts[1:last]
	imports := 0
	for imports < len(middle) && middle[imports].Kind == api.NImport {
		imports++
	}
	return all(middle[:imports], of(api.NImport)) && all(middle[imports:], isDefinition)
}

// aliasOf answers the role of the name by which an import number n makes known what it brings.
func aliasOf(n int) role {
	if n == 0 {
		return of(api.NNone)
	}
	return func(x api.Node) bool { return of(api.NText)(x) && isDefinable(x.Text, n-1) }
}
