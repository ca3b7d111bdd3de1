package matcher

import (
	"colander/answer"
	"colander/api"
	"colander/regex"
	"colander/runes"
)

// Value answers a hit of p in s as an object.
func Value(p api.Pat, s string, h api.Hit) api.Value {
	_, names := regex.Groups(p)
	captures := api.Value{Kind: api.Array}
	for i, name := range names {
		span := api.Span{From: -1, To: -1}
		if i < len(h.Groups) {
			span = h.Groups[i]
		}
		captures.List = append(captures.List, part(s, span, "name", nameOf(name)))
	}
	return part(s, h.At, "captures", captures)
}

// part answers the object of a part of s, with one more value.
func part(s string, span api.Span, key string, more api.Value) api.Value {
	offset, length, piece := answer.Number(-1), answer.Number(0), api.Value{}
	if span.From >= 0 {
		offset, length = answer.Number(span.From), answer.Number(span.To-span.From)
		piece = api.Value{Kind: api.String, Str: runes.Slice(s, span.From, span.To)}
	}
	return api.Value{Kind: api.Object, Keys: []string{"offset", "length", "string", key}, List: []api.Value{offset, length, piece, more}}
}

// nameOf answers a group's name as a value: null of one without.
func nameOf(name string) api.Value {
	if name == "" {
		return api.Value{}
	}
	return api.Value{Kind: api.String, Str: name}
}
