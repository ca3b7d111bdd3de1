package path

import (
	"slices"

	"colander/api"
	"colander/value"
)

// along follows path as far as it leads to more than null, and answers what it goes through: v, what lies at the first step, and so on.
func along(v api.Value, path []api.Value) ([]api.Value, api.Err) {
	gone := []api.Value{v}
	for i := 0; i < len(path) && v.Kind != api.Null; i++ {
		var err api.Err
		if v, err = index(v, path[i]); err.Is {
			return nil, err
		}
		if v.Kind != api.Null {
			gone = append(gone, v)
		}
	}
	return gone, api.Err{}
}

// change follows path as along does, has end tell what is to stand where that ends, by what is left of path there, and sets this on the way back.
func change(v api.Value, path []api.Value, set setter, end func(at api.Value, left []api.Value) (api.Value, api.Err)) (api.Value, api.Err) {
	gone, err := along(v, path)
	if err.Is {
		return api.Value{}, err
	}
	steps := len(gone) - 1
	x, err := end(gone[steps], path[steps:])
	if err.Is {
		return api.Value{}, err
	}
	return setBack(gone, path[:steps], x, set)
}

// setBack sets x at the last one of keys, what comes of that at the one ahead of it, and so on, each in the value of gone that it was asked of.
func setBack(gone, keys []api.Value, x api.Value, set setter) (api.Value, api.Err) {
	for i, key := range slices.Backward(keys) {
		var err api.Err
		if x, err = set(gone[i], key, x); err.Is {
			return api.Value{}, err
		}
	}
	return x, api.Err{}
}

// takeOut takes out what lies where one path leads.
func takeOut(v api.Value, path []api.Value, set setter) (api.Value, api.Err) {
	last := len(path) - 1
	if last < 0 || v.Kind == api.Null {
		return api.Value{}, api.Err{}
	}
	return change(v, path[:last], set, func(at api.Value, left []api.Value) (api.Value, api.Err) {
		if len(left) > 0 { // there is nothing
			return at, api.Err{}
		}
		return remove(at, path[last])
	})
}

// lastFirst answers paths in the order in which what they lead to is taken out: the last one first.
func lastFirst(paths [][]api.Value) [][]api.Value {
	out := slices.Clone(paths)
	// Of two paths with NaN in them neither may be above the other: these stay as they stand.
	slices.SortStableFunc(out, func(a, b []api.Value) int {
		if isAbove(a, b) {
			return -1
		}
		if isAbove(b, a) {
			return 1
		}
		return 0
	})
	return out
}

func isAbove(a, b []api.Value) bool {
	return value.Compare(arrayOf(a), arrayOf(b)) > 0
}

func arrayOf(l []api.Value) api.Value {
	return api.Value{Kind: api.Array, List: l}
}

// eachPath gives the path of each value within v, which lies at path itself, ahead of those within that. The memory of what it gives is used again.
func eachPath(v api.Value, path []api.Value, give func([]api.Value)) {
	for i, x := range v.List {
		inner := append(path, keyAt(v, i))
		give(inner)
		eachPath(x, inner, give)
	}
}
