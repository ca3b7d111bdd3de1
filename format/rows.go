package format

import (
	"slices"
	"strings"

	"colander/answer"
	"colander/api"
)

// row answers the cells of an array as a row of a table, with sign between them, strings as text writes them.
func row(name string, v api.Value, sign string, text func(s string) string) (string, api.Err) {
	if v.Kind != api.Array {
		return failed(answer.Told(v) + " cannot be " + name + "-formatted, only an array can be")
	}
	if i := slices.IndexFunc(v.List, isNested); i >= 0 {
		return failed(answer.Told(v.List[i]) + " is not valid in a " + name + " row")
	}
	return joined(v.List, sign, func(cell api.Value) string {
		if cell.Kind == api.Null {
			return ""
		}
		return written(cell, text)
	}), api.Err{}
}

// words answers the cells of an array, or a value that is one, as words of a shell's line.
func words(v api.Value) (string, api.Err) {
	cells := []api.Value{v}
	if v.Kind == api.Array {
		cells = v.List
	}
	if i := slices.IndexFunc(cells, isNested); i >= 0 {
		return failed(answer.Told(cells[i]) + " can not be escaped for shell")
	}
	return joined(cells, " ", func(cell api.Value) string {
		return written(cell, shielded)
	}), api.Err{}
}

// isNested tells whether v is none of those that may be a cell.
func isNested(v api.Value) bool {
	return v.Kind == api.Array || v.Kind == api.Object
}

// joined answers the cells, each of them by one, with sign between them.
func joined(cells []api.Value, sign string, one func(cell api.Value) string) string {
	out := make([]string, len(cells))
	for i, cell := range cells {
		out[i] = one(cell)
	}
	return strings.Join(out, sign)
}

// written answers a cell, a string as text writes it.
func written(cell api.Value, text func(s string) string) string {
	if cell.Kind == api.String {
		return text(cell.Str)
	}
	return String(cell)
}

// quoted answers a string as a cell of csv.
func quoted(s string) string {
	return `"` + replaced(s, swap{'"', `""`}) + `"`
}

// escaped answers a string as a cell of tsv.
func escaped(s string) string {
	return replaced(s, swap{'\\', `\\`}, swap{'\t', `\t`}, swap{'\n', `\n`}, swap{'\r', `\r`})
}

// shielded answers a string as a word that a shell takes as it is.
func shielded(s string) string {
	return `'` + replaced(s, swap{'\'', `'\''`}) + `'`
}
