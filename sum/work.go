package sum

import (
	"loupe/api"
	"loupe/value"
)

// values is what an operator takes.
type values []api.Value

func (l values) mayBe() bool {
	for _, v := range l {
		if value.Check(v) != api.OK {
			return false
		}
	}
	return true
}

// types tells each one's type: TypeNone of null.
func (l values) types() []api.Type {
	types := make([]api.Type, 0, len(l))
	for _, v := range l {
		types = append(types, api.Type(v.Kind))
	}
	return types
}

func (l values) truths() []api.Truth {
	truths := make([]api.Truth, 0, len(l))
	for _, v := range l {
		t, _ := value.Known(v)
		truths = append(truths, t)
	}
	return truths
}

func (l values) anyNull() bool {
	for _, v := range l {
		if v.Kind == api.ValueNull {
			return true
		}
	}
	return false
}

func (l values) first() api.Value { return l[0] }

// last is the first one again, where there is just one.
func (l values) last() api.Value { return l[len(l)-1] }

// work is a sum under way. Its ways are asked of as many values as its operator takes, of types that it takes.
type work struct {
	values
	op api.Op
}

// done goes the operator's way. Only the ways of some operators ask for what is null.
func (w work) done() api.Value {
	switch w.op {
	case api.OpAnd, api.OpOr, api.OpNull, api.OpSome:
	default:
		if w.anyNull() {
			return api.Value{}
		}
	}
	return table()[w.op].way(w)
}

func (w work) number() api.Value {
	a, b := w.first().Int, w.last().Int
	ops := map[api.Op]func() int64{
		api.OpAdd: func() int64 { return plus(a, b) },
		api.OpSub: func() int64 { return minus(a, b) },
		api.OpMul: func() int64 { return times(a, b) },
		api.OpDiv: func() int64 { return quotient(a, b) },
		api.OpMod: func() int64 { return left(a, b) },
		api.OpNeg: func() int64 { return minus(0, a) },
		api.OpAbs: func() int64 { return bare(a) },
	}
	return api.Value{Kind: api.ValueInt, Int: ops[w.op]()}
}

func (w work) order() api.Value {
	order := value.Order(w.first(), w.last())
	ops := map[api.Op]func() bool{
		api.OpEq: func() bool { return order == 0 },
		api.OpNe: func() bool { return order != 0 },
		api.OpLt: func() bool { return order < 0 },
		api.OpLe: func() bool { return order <= 0 },
		api.OpGt: func() bool { return order > 0 },
		api.OpGe: func() bool { return order >= 0 },
	}
	return truth(ops[w.op]())
}

func (w work) truth() api.Value {
	l := w.truths()
	ops := map[api.Op]func() api.Truth{
		api.OpAnd: func() api.Truth { return value.And(l...) },
		api.OpOr:  func() api.Truth { return value.Or(l...) },
		api.OpNot: func() api.Truth { return value.Not(l[0]) },
	}
	return value.Of(ops[w.op]())
}

func (w work) lack() api.Value { return truth(w.anyNull() == (w.op == api.OpNull)) }

func (w work) joined() api.Value {
	both := w.first().Text + w.last().Text
	need(len(both) <= api.MaxBytes, api.ErrLong)
	return api.Value{Kind: w.first().Kind, Text: both}
}

func (w work) length() api.Value {
	return api.Value{Kind: api.ValueInt, Int: int64(len(w.first().Text))}
}

func truth(so bool) api.Value {
	if so {
		return value.Of(api.True)
	}
	return value.Of(api.False)
}
