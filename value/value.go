// Package value is layer 1: what a column holds, and what is true, false or unknown. See shared/doc/01-value.md.
package value

import (
	"cmp"
	"iter"

	"loupe/api"
)

// Check tells whether a value may be.
func Check(v api.Value) api.Errno {
	switch {
	case len(v.Text) > api.MaxBytes:
		return api.ErrLong
	case !mayBe(v):
		return api.ErrArg
	}
	return api.OK
}

// mayBe tells whether a value of few enough bytes has just what its Kind names.
func mayBe(v api.Value) bool {
	switch v.Kind {
	case api.ValueNull:
		return v.Int == 0 && v.Text == ""
	case api.ValueBool:
		return (v.Int == 0 || v.Int == 1) && v.Text == ""
	case api.ValueInt:
		return v.Text == ""
	case api.ValueText, api.ValueBlob:
		return v.Int == 0
	}
	return false
}

// Order tells which of two is less: -1, if a is, 1, if b is, 0, if they are the same.
// What a Kind does not name is 0 or empty in a value that may be, and so decides nothing there.
func Order(a, b api.Value) int {
	return cmp.Or(cmp.Compare(a.Kind, b.Kind), cmp.Compare(a.Int, b.Int), cmp.Compare(a.Text, b.Text))
}

// Is tells whether a value is of a type.
func Is(v api.Value, t api.Type) bool {
	if Check(v) != api.OK {
		return false
	}
	is := false
types:
	for u := range Types() {
		switch u {
		case t:
			is = v.Kind == api.ValueNull || int(v.Kind) == int(u)
			break types
		}
	}
	return is
}

// Types goes over the types but TypeNone, rising, each with its name.
func Types() iter.Seq2[api.Type, string] {
	return func(yield func(api.Type, string) bool) {
		names := [...]string{"bool", "int", "text", "blob"}
		for i, name := range names {
			if !yield(api.TypeBool+api.Type(i), name) {
				return
			}
		}
	}
}
