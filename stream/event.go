package stream

import (
	"iter"
	"slices"
	"strings"

	"colander/api"
)

// maxParts is how many parts a path may have: the value itself stands on a level, too.
const maxParts = api.MaxDepth - 1

// trail builds the path to a place, in new memory each time.
type trail func() []api.Value

// trailOf answers the trail of keys, whose memory may be used again for others once the place has been left.
func trailOf(keys []api.Value) trail {
	return func() []api.Value {
		return slices.Clone(keys)
	}
}

// leaf is the event of a leaf that stands at the trail's end.
func (t trail) leaf(v api.Value) api.Value {
	return array(array(t()...), bare(v))
}

// end is the event behind the last part of an array or an object, to which the trail leads.
func (t trail) end() api.Value {
	return array(array(t()...))
}

func array(l ...api.Value) api.Value {
	return api.Value{Kind: api.Array, List: l}
}

// place is the key of an array's part.
func place(n int) api.Value {
	return api.Value{Kind: api.Number, Num: float64(n)}
}

// bare answers a leaf or a key in memory of its own; an empty list may have room that is the argument's.
func bare(v api.Value) api.Value {
	return api.Value{Kind: v.Kind, Num: v.Num, Str: strings.Clone(v.Str)}
}

func isLeaf(v api.Value) bool {
	return len(v.List) == 0
}

// eventsOf gives the events of v, in their order.
func eventsOf(v api.Value) iter.Seq[api.Value] {
	return func(give func(api.Value) bool) {
		walk(v, nil, give)
	}
}

// walk gives the events of the value to which keys lead, and tells whether more are asked for. What comes behind a part writes its keys over that part's.
func walk(v api.Value, keys []api.Value, give func(api.Value) bool) bool {
	if isLeaf(v) {
		return give(trailOf(keys).leaf(v))
	}
	last := keys
	for i, x := range v.List {
		last = append(keys, keyAt(v, i))
		if !walk(x, last, give) {
			return false
		}
	}
	return give(trailOf(last).end())
}

// keyAt is the key of the part of v that stands at a place of its list.
func keyAt(v api.Value, i int) api.Value {
	if v.Kind == api.Object {
		return api.Value{Kind: api.String, Str: strings.Clone(v.Keys[i])}
	}
	return place(i)
}

// parts is an event taken apart: a path and a leaf, or a path alone, which is an end.
type parts struct {
	path  []api.Value
	leaf  api.Value
	isEnd bool
}

// partsOf takes an event apart, and tells whether e is one.
func partsOf(e api.Value) (parts, bool) {
	if e.Kind != api.Array || len(e.List) == 0 || len(e.List) > 2 || !isPath(e.List[0]) {
		return parts{}, false
	}
	path := e.List[0].List
	if len(e.List) == 1 {
		return parts{path: path, isEnd: true}, true
	}
	return parts{path: path, leaf: e.List[1]}, isLeaf(e.List[1])
}

func isPath(v api.Value) bool {
	if v.Kind != api.Array || len(v.List) > maxParts {
		return false
	}
	for _, part := range v.List {
		if part.Kind != api.Number && part.Kind != api.String {
			return false
		}
	}
	return true
}
