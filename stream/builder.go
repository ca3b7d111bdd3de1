package stream

import (
	"math"
	"strings"

	"colander/api"
)

// builder puts values together from their events: those that are done, and the arrays and objects that are not, each within the one ahead.
type builder struct {
	done  []api.Value
	nests []nest
}

// nest is an array or an object on its way: what is in it, the key of the part that came last, and where an object's keys stand.
type nest struct {
	v      api.Value
	key    api.Value
	places map[string]int
}

// take takes the next event, and tells whether it may come next.
func (b *builder) take(e api.Value) bool {
	p, ok := partsOf(e)
	if !ok {
		return false
	}
	if p.isEnd {
		return b.end(p.path)
	}
	if !b.open(p.path) {
		return false
	}
	b.put(bare(p.leaf))
	return true
}

// end closes the innermost array or object, whose last part the path must be that of.
func (b *builder) end(path []api.Value) bool {
	last := len(b.nests) - 1
	if last < 0 || len(path) != len(b.nests) || !b.isUnder(path) {
		return false
	}
	v := b.nests[last].v
	b.nests = b.nests[:last]
	b.put(v)
	return true
}

// open goes on in the innermost array or object with the part that a path leads to, and begins those that the path goes through behind it.
func (b *builder) open(path []api.Value) bool {
	inner := len(b.nests) - 1
	if inner >= len(path) || inner >= 0 && !b.isUnder(path[:inner]) {
		return false
	}
	for i := max(0, inner); i < len(path); i++ {
		if i == len(b.nests) {
			b.nests = append(b.nests, nestOf(path[i]))
		}
		if !b.nests[i].step(path[i]) {
			return false
		}
	}
	return true
}

// isUnder tells whether a path goes by the parts that came last, from the outermost on.
func (b *builder) isUnder(path []api.Value) bool {
	for i, part := range path {
		if !sameKey(b.nests[i].key, part) {
			return false
		}
	}
	return true
}

// sameKey tells whether two keys are one. Numbers are told to the bit, as no part of a value has the key -0.
func sameKey(a, b api.Value) bool {
	return a.Kind == b.Kind && math.Float64bits(a.Num) == math.Float64bits(b.Num) && a.Str == b.Str
}

// put puts a value where the path of the event leads.
func (b *builder) put(v api.Value) {
	if len(b.nests) == 0 {
		b.done = append(b.done, v)
		return
	}
	b.nests[len(b.nests)-1].put(v)
}

// nestOf begins what has parts with keys such as this one.
func nestOf(key api.Value) nest {
	if key.Kind == api.Number {
		return nest{v: api.Value{Kind: api.Array}}
	}
	return nest{v: api.Value{Kind: api.Object}, places: map[string]int{}}
}

// step goes to the next part, and tells whether it may have this key.
func (n *nest) step(key api.Value) bool {
	n.key = key
	if n.v.Kind == api.Array {
		return sameKey(key, place(len(n.v.List)))
	}
	return key.Kind == api.String
}

// put puts the part that the last step was for; one that comes again takes the place of the first one.
func (n *nest) put(v api.Value) {
	if n.v.Kind == api.Object {
		if at, ok := n.places[n.key.Str]; ok {
			n.v.List[at] = v
			return
		}
		n.places[n.key.Str] = len(n.v.List)
		n.v.Keys = append(n.v.Keys, strings.Clone(n.key.Str))
	}
	n.v.List = append(n.v.List, v)
}
