// Package answer makes what the layers above the values' own answer: values in new memory, and errors.
package answer

import (
	"colander/api"
	"colander/value"
)

// Own answers v in memory of its own: null and v added are v, and what layer 3 answers is new memory.
func Own(v api.Value) api.Value {
	out, _ := value.Operate("+", api.Value{}, v)
	return out
}

// Small answers v, or, if it is too large, the error that says so. It may share memory with v.
func Small(v api.Value) (api.Value, api.Err) {
	if value.Large(v) {
		return api.Value{}, TooLarge()
	}
	return v, api.Err{}
}

// Number answers a count, or a place, as a value.
func Number(n int) api.Value {
	return api.Value{Kind: api.Number, Num: float64(n)}
}

// Numbers answers counts, or places, as an array, unless there are too many.
func Numbers(list []int) (api.Value, api.Err) {
	if len(list) >= api.MaxNodes { // the array itself counts, too
		return api.Value{}, TooLarge()
	}
	out := api.Value{Kind: api.Array, List: make([]api.Value, len(list))}
	for i, n := range list {
		out.List[i] = Number(n)
	}
	return out, api.Err{}
}

// TooLarge is the error of what is too large.
func TooLarge() api.Err {
	return Failure("value is too large")
}

// Failure is the error that a text tells.
func Failure(text string) api.Err {
	return api.Err{Is: true, V: api.Value{Kind: api.String, Str: text}}
}

// Told is how errors tell of v: its name, and how it begins.
func Told(v api.Value) string {
	return value.Name(v) + " (" + value.Short(v) + ")"
}
