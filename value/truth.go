package value

import "loupe/api"

// Known tells the truth of a truth or of null, and true; else False and false.
func Known(v api.Value) (api.Truth, bool) {
	switch v {
	case Of(api.False):
		return api.False, true
	case Of(api.True):
		return api.True, true
	case Of(api.Unknown):
		return api.Unknown, true
	}
	return api.False, false
}

// Of is a truth as a value: null, if it is neither true nor false.
func Of(t api.Truth) api.Value {
	switch t {
	case api.False:
		return api.Value{Kind: api.ValueBool}
	case api.True:
		return api.Value{Kind: api.ValueBool, Int: 1}
	}
	return api.Value{}
}

// And is True, if all are; False, if any is; else Unknown.
func And(l ...api.Truth) api.Truth { return fold(api.True, both, l...) }

// Or is True, if any is; False, if all are; else Unknown.
func Or(l ...api.Truth) api.Truth { return fold(api.False, either, l...) }

// Not is the other way round. What is neither true nor false stays unknown.
func Not(t api.Truth) api.Truth {
	switch t {
	case api.False:
		return api.True
	case api.True:
		return api.False
	}
	return api.Unknown
}

// fold joins all of l to the first one, from the left.
func fold[T any](first T, join func(a, b T) T, l ...T) T {
	for _, t := range l {
		first = join(first, t)
	}
	return first
}

func both(a, b api.Truth) api.Truth {
	switch {
	case a == api.False || b == api.False:
		return api.False
	case a == api.True && b == api.True:
		return api.True
	}
	return api.Unknown
}

// either is what both makes of the opposites, turned over.
func either(a, b api.Truth) api.Truth { return Not(both(Not(a), Not(b))) }
