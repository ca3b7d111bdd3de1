package syntax

import "colander/api"

// isData tells whether a node is an object that is a constant.
func isData(x api.Node) bool {
	return of(api.NObject)(x) && isConstant(x)
}

// isConstant tells whether an expression that may be is a constant.
func isConstant(x api.Node) bool {
	switch x.Kind {
	case api.NNumber:
		return true
	case api.NString:
		return isPlainString(x)
	case api.NCall:
		return len(x.Sub) == 0 && (x.Text == "null" || x.Text == "true" || x.Text == "false")
	case api.NNeg:
		return x.Sub[0].Kind == api.NNumber
	case api.NArray:
		return all(x.Sub, areConstants)
	case api.NObject:
		return all(x.Sub, isConstantEntry)
	}
	return false
}

// areConstants tells whether an expression is a constant, or several with commas between.
func areConstants(x api.Node) bool {
	if x.Kind == api.NComma {
		return all(x.Sub, areConstants)
	}
	return isConstant(x)
}

func isConstantEntry(x api.Node) bool {
	return isPlainString(x.Sub[0]) && isConstant(x.Sub[1])
}

// isPlainString tells whether an expression is a string without a format, in which nothing is interpolated.
func isPlainString(x api.Node) bool {
	return x.Kind == api.NString && x.Text == "" && all(x.Sub, func(part api.Node) bool { return part.Kind == api.NText })
}
