package collect

import (
	"colander/answer"
	"colander/api"
)

// each answers, as an array, what one makes of each item of a list.
func each[T any](list []T, one func(item T) api.Value) api.Value {
	out := arrayOf(make([]api.Value, len(list)))
	for i, item := range list {
		out.List[i] = one(item)
	}
	return out
}

// upTo answers the places of a list of n items.
func upTo(n int) []int {
	out := make([]int, n)
	for i := range out {
		out[i] = i
	}
	return out
}

// valuesAt answers, as an array, what v has at some places.
func valuesAt(v api.Value, places []int) api.Value {
	return each(places, func(at int) api.Value {
		return v.List[at]
	})
}

// valueAt answers what v has at a place, null, if it has nothing.
func valueAt(v api.Value, at int) api.Value {
	if at >= len(v.List) {
		return api.Value{}
	}
	return v.List[at]
}

// flat puts the values of list behind out, with those of arrays among them, as deep as deep says, in the arrays' places.
func flat(out, list []api.Value, deep float64) []api.Value {
	for _, x := range list {
		if x.Kind == api.Array && deep != 0 {
			out = flat(out, x.List, deep-1)
		} else {
			out = append(out, x)
		}
	}
	return out
}

// finished answers an outcome that may share memory with what was handed in, unless it is too large.
func finished(v api.Value) (api.Value, api.Err) {
	out, err := answer.Small(v)
	return answer.Own(out), err
}

func isNoArray(v api.Value) bool {
	return v.Kind != api.Array
}

func arrayOf(list []api.Value) api.Value {
	return api.Value{Kind: api.Array, List: list}
}

func truth(is bool) api.Value {
	if is {
		return api.Value{Kind: api.True}
	}
	return api.Value{Kind: api.False}
}
