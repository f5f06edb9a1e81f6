package sum_test

import (
	"math"
	"math/big"
	"slices"
	"strings"
	"testing"

	"loupe/api"
	"loupe/sum"
	"loupe/value"
)

func boolean(n int64) api.Value { return api.Value{Kind: api.ValueBool, Int: n} }
func number(n int64) api.Value  { return api.Value{Kind: api.ValueInt, Int: n} }
func text(s string) api.Value   { return api.Value{Kind: api.ValueText, Text: s} }
func blob(s string) api.Value   { return api.Value{Kind: api.ValueBlob, Text: s} }

func truth(so bool) api.Value {
	if so {
		return boolean(1)
	}
	return boolean(0)
}

var (
	null = api.Value{}
	most = strings.Repeat("m", api.MaxBytes)
)

// numbers has the edges of 64 bits, of products, and small ones.
func numbers() []int64 {
	l := []int64{0, 1, 2, 3, 7, 10, 1 << 31, 1 << 32, 3037000499, 3037000500, 1 << 61, 1 << 62, math.MaxInt64/2 + 1, math.MaxInt64 / 3, math.MaxInt64 - 1, math.MaxInt64}
	for _, n := range slices.Clone(l[1:]) {
		l = append(l, -n)
	}
	return append(l, math.MinInt64)
}

// all is values that may be: of each type, with its edges.
func all() []api.Value {
	l := []api.Value{null, boolean(0), boolean(1)}
	for _, n := range numbers() {
		l = append(l, number(n))
	}
	for _, s := range []string{"", "\x00", "'", "A", "a", "aa", "b", "ab", "é", "\xff", "1", most[:499], most[:500], most[:501], most[:999], most} {
		l = append(l, text(s), blob(s))
	}
	return l
}

// outside is values that may not be.
func outside() []api.Value {
	return []api.Value{
		{Kind: -1}, {Kind: 5}, {Kind: math.MaxInt}, {Kind: math.MinInt},
		{Int: 1}, {Text: "a"}, {Text: most + "m"},
		boolean(2), boolean(-1), {Kind: api.ValueBool, Int: 1, Text: "a"},
		{Kind: api.ValueInt, Int: 1, Text: "1"},
		{Kind: api.ValueText, Int: 1, Text: "a"}, text(most + "m"),
		{Kind: api.ValueBlob, Int: 1, Text: "a"}, blob(most + "m"),
	}
}

func typeOf(v api.Value) api.Type { return api.Type(v.Kind) }

// known is an operator as the document's table has it, with the types that it takes.
type known struct {
	op    api.Op
	info  api.OpInfo
	takes []api.Type
}

func table() []known {
	const none, bools, ints, texts, blobs = api.TypeNone, api.TypeBool, api.TypeInt, api.TypeText, api.TypeBlob
	num, truths, bytes, any := []api.Type{ints}, []api.Type{bools}, []api.Type{texts, blobs}, []api.Type{bools, ints, texts, blobs}
	return []known{
		{1, api.OpInfo{Name: "+", Many: 2, Of: ints, Makes: ints}, num},
		{2, api.OpInfo{Name: "-", Many: 2, Of: ints, Makes: ints}, num},
		{3, api.OpInfo{Name: "*", Many: 2, Of: ints, Makes: ints}, num},
		{4, api.OpInfo{Name: "/", Many: 2, Of: ints, Makes: ints}, num},
		{5, api.OpInfo{Name: "%", Many: 2, Of: ints, Makes: ints}, num},
		{6, api.OpInfo{Name: "||", Many: 2, Of: none, Makes: none}, bytes},
		{7, api.OpInfo{Name: "=", Many: 2, Of: none, Makes: bools}, any},
		{8, api.OpInfo{Name: "<>", Many: 2, Of: none, Makes: bools}, any},
		{9, api.OpInfo{Name: "<", Many: 2, Of: none, Makes: bools}, any},
		{10, api.OpInfo{Name: "<=", Many: 2, Of: none, Makes: bools}, any},
		{11, api.OpInfo{Name: ">", Many: 2, Of: none, Makes: bools}, any},
		{12, api.OpInfo{Name: ">=", Many: 2, Of: none, Makes: bools}, any},
		{13, api.OpInfo{Name: "and", Many: 2, Of: bools, Makes: bools}, truths},
		{14, api.OpInfo{Name: "or", Many: 2, Of: bools, Makes: bools}, truths},
		{15, api.OpInfo{Name: "-", Many: 1, Of: ints, Makes: ints}, num},
		{16, api.OpInfo{Name: "not", Many: 1, Of: bools, Makes: bools}, truths},
		{17, api.OpInfo{Name: "is null", Many: 1, Of: none, Makes: bools}, any},
		{18, api.OpInfo{Name: "is not null", Many: 1, Of: none, Makes: bools}, any},
		{19, api.OpInfo{Name: "length", Many: 1, Of: none, Makes: ints}, bytes},
		{20, api.OpInfo{Name: "abs", Many: 1, Of: ints, Makes: ints}, num},
	}
}

// noOps is numbers of no operator.
func noOps() []api.Op { return []api.Op{math.MinInt, -20, -1, api.OpNone, 21, 22, 40, math.MaxInt} }

// lists goes over all lists of so many of l.
func lists[T any](l []T, many int) [][]T {
	made := [][]T{nil}
	for range many {
		var longer [][]T
		for _, m := range made {
			for _, t := range l {
				longer = append(longer, append(slices.Clone(m), t))
			}
		}
		made = longer
	}
	return made
}

// has tells whether an operator takes values of such types, null being TypeNone.
func (k known) has(l []api.Type) bool {
	var some []api.Type
	for _, t := range l {
		if t != api.TypeNone {
			some = append(some, t)
		}
	}
	for _, t := range some {
		if t != some[0] || !slices.Contains(k.takes, t) {
			return false
		}
	}
	return true
}

// short tells a value in few bytes.
func short(l ...api.Value) string {
	var b strings.Builder
	for _, v := range l {
		s, _ := value.Literal(v)
		if len(s) > 30 {
			s = s[:30] + ".."
		}
		b.WriteString(" " + s)
	}
	return b.String()
}

// P2.1
func TestInfo(t *testing.T) {
	for _, k := range table() {
		if got, is := sum.Info(k.op); got != k.info || !is {
			t.Errorf("Info(%d) is %v, %v", k.op, got, is)
		}
	}
	for _, o := range noOps() {
		if got, is := sum.Info(o); got != (api.OpInfo{}) || is {
			t.Errorf("Info(%d) is %v, %v", o, got, is)
		}
	}
}

// P2.1
func TestOps(t *testing.T) {
	want := table()
	ops := sum.Ops()
	for leave := range 23 {
		var got []known
		for o, info := range ops {
			if len(got) == leave {
				break
			}
			got = append(got, known{op: o, info: info})
		}
		if len(got) != min(leave, 20) {
			t.Errorf("left behind %d: %v", leave, got)
		}
		for i, k := range got {
			if k.op != want[i].op || k.info != want[i].info {
				t.Errorf("left behind %d: the operator %d is %d, %v", leave, i, k.op, k.info)
			}
		}
	}
	many := 0
	for range ops {
		for range ops {
			many++
		}
	}
	if many != 20*20 {
		t.Errorf("one inside the other: %d", many)
	}
}

// P2.2: what the document's table and examples tell, and the edges of 64 bits.
func TestDo(t *testing.T) {
	const least, greatest = math.MinInt64, math.MaxInt64
	n, y, f := number, boolean(1), boolean(0)
	for _, c := range []struct {
		o    api.Op
		l    []api.Value
		want api.Value
	}{
		{api.OpAdd, []api.Value{n(2), n(3)}, n(5)},
		{api.OpAdd, []api.Value{n(greatest), n(least)}, n(-1)},
		{api.OpAdd, []api.Value{n(greatest - 1), n(1)}, n(greatest)},
		{api.OpSub, []api.Value{n(2), n(3)}, n(-1)},
		{api.OpSub, []api.Value{n(-1), n(least)}, n(greatest)},
		{api.OpSub, []api.Value{n(-1), n(greatest)}, n(least)},
		{api.OpMul, []api.Value{n(-4), n(3)}, n(-12)},
		{api.OpMul, []api.Value{n(least), n(1)}, n(least)},
		{api.OpMul, []api.Value{n(0), n(-1)}, n(0)},
		{api.OpMul, []api.Value{n(least), n(0)}, n(0)},
		{api.OpMul, []api.Value{n(1 << 62), n(-2)}, n(least)},
		{api.OpDiv, []api.Value{n(-7), n(2)}, n(-3)},
		{api.OpDiv, []api.Value{n(7), n(-2)}, n(-3)},
		{api.OpDiv, []api.Value{n(-7), n(-2)}, n(3)},
		{api.OpDiv, []api.Value{n(7), n(-1)}, n(-7)},
		{api.OpDiv, []api.Value{n(greatest), n(-1)}, n(-greatest)},
		{api.OpDiv, []api.Value{n(least), n(1)}, n(least)},
		{api.OpMod, []api.Value{n(-7), n(2)}, n(-1)},
		{api.OpMod, []api.Value{n(7), n(-2)}, n(1)},
		{api.OpMod, []api.Value{n(-7), n(-2)}, n(-1)},
		{api.OpMod, []api.Value{n(6), n(-1)}, n(0)},
		{api.OpMod, []api.Value{n(least), n(-1)}, n(0)},
		{api.OpCat, []api.Value{text("a"), text("b'")}, text("ab'")},
		{api.OpCat, []api.Value{blob("\xff"), blob("\x00")}, blob("\xff\x00")},
		{api.OpCat, []api.Value{text(""), text("")}, text("")},
		{api.OpCat, []api.Value{text(most[:500]), text(most[:500])}, text(most)},
		{api.OpCat, []api.Value{blob(""), blob(most)}, blob(most)},
		{api.OpEq, []api.Value{null, n(1)}, null},
		{api.OpEq, []api.Value{null, null}, null},
		{api.OpEq, []api.Value{text("a"), text("a")}, y},
		{api.OpNe, []api.Value{blob("a"), blob("a")}, f},
		{api.OpLt, []api.Value{f, y}, y},
		{api.OpLt, []api.Value{text("10"), text("9")}, y},
		{api.OpLe, []api.Value{n(10), n(9)}, f},
		{api.OpGt, []api.Value{blob("a"), blob("Z")}, y},
		{api.OpGe, []api.Value{n(9), n(9)}, y},
		{api.OpGe, []api.Value{text("a"), null}, null},
		{api.OpAnd, []api.Value{null, f}, f},
		{api.OpAnd, []api.Value{f, null}, f},
		{api.OpAnd, []api.Value{null, y}, null},
		{api.OpAnd, []api.Value{y, y}, y},
		{api.OpAnd, []api.Value{null, null}, null},
		{api.OpOr, []api.Value{null, y}, y},
		{api.OpOr, []api.Value{y, null}, y},
		{api.OpOr, []api.Value{f, null}, null},
		{api.OpOr, []api.Value{f, f}, f},
		{api.OpNeg, []api.Value{n(5)}, n(-5)},
		{api.OpNeg, []api.Value{n(-greatest)}, n(greatest)},
		{api.OpNeg, []api.Value{n(0)}, n(0)},
		{api.OpNeg, []api.Value{null}, null},
		{api.OpNot, []api.Value{y}, f},
		{api.OpNot, []api.Value{f}, y},
		{api.OpNot, []api.Value{null}, null},
		{api.OpNull, []api.Value{null}, y},
		{api.OpNull, []api.Value{f}, f},
		{api.OpNull, []api.Value{text("")}, f},
		{api.OpSome, []api.Value{null}, f},
		{api.OpSome, []api.Value{n(0)}, y},
		{api.OpSome, []api.Value{blob("")}, y},
		{api.OpLen, []api.Value{text("é")}, n(2)},
		{api.OpLen, []api.Value{blob("\x00\x00\xff")}, n(3)},
		{api.OpLen, []api.Value{text("")}, n(0)},
		{api.OpLen, []api.Value{text(most)}, n(1000)},
		{api.OpLen, []api.Value{null}, null},
		{api.OpAbs, []api.Value{n(-5)}, n(5)},
		{api.OpAbs, []api.Value{n(5)}, n(5)},
		{api.OpAbs, []api.Value{n(0)}, n(0)},
		{api.OpAbs, []api.Value{n(-greatest)}, n(greatest)},
		{api.OpAbs, []api.Value{null}, null},
		{api.OpDiv, []api.Value{null, n(0)}, null},
		{api.OpMod, []api.Value{null, n(0)}, null},
		{api.OpDiv, []api.Value{n(0), null}, null},
		{api.OpCat, []api.Value{null, text(most)}, null},
		{api.OpCat, []api.Value{null, null}, null},
	} {
		if got, e := sum.Do(c.o, c.l...); got != c.want || e != api.OK {
			t.Errorf("Do(%d,%s) is%s, %v", c.o, short(c.l...), short(got), e)
		}
	}
}

// P2.2: errors, the first one of several, too.
func TestDoOfWrong(t *testing.T) {
	const least, greatest = math.MinInt64, math.MaxInt64
	n, y := number, boolean(1)
	for _, c := range []struct {
		o    api.Op
		l    []api.Value
		want api.Errno
	}{
		{api.OpDiv, []api.Value{n(1), n(0)}, api.ErrZero},
		{api.OpDiv, []api.Value{n(0), n(0)}, api.ErrZero},
		{api.OpDiv, []api.Value{n(least), n(0)}, api.ErrZero},
		{api.OpMod, []api.Value{n(1), n(0)}, api.ErrZero},
		{api.OpMod, []api.Value{n(least), n(0)}, api.ErrZero},
		{api.OpAdd, []api.Value{n(greatest), n(1)}, api.ErrOver},
		{api.OpAdd, []api.Value{n(1), n(greatest)}, api.ErrOver},
		{api.OpAdd, []api.Value{n(least), n(-1)}, api.ErrOver},
		{api.OpAdd, []api.Value{n(least), n(least)}, api.ErrOver},
		{api.OpSub, []api.Value{n(least), n(1)}, api.ErrOver},
		{api.OpSub, []api.Value{n(0), n(least)}, api.ErrOver},
		{api.OpSub, []api.Value{n(greatest), n(-1)}, api.ErrOver},
		{api.OpMul, []api.Value{n(least), n(-1)}, api.ErrOver},
		{api.OpMul, []api.Value{n(-1), n(least)}, api.ErrOver},
		{api.OpMul, []api.Value{n(1 << 62), n(2)}, api.ErrOver},
		{api.OpMul, []api.Value{n(1 << 32), n(1 << 32)}, api.ErrOver},
		{api.OpMul, []api.Value{n(least), n(least)}, api.ErrOver},
		{api.OpMul, []api.Value{n(greatest), n(greatest)}, api.ErrOver},
		{api.OpDiv, []api.Value{n(least), n(-1)}, api.ErrOver},
		{api.OpNeg, []api.Value{n(least)}, api.ErrOver},
		{api.OpAbs, []api.Value{n(least)}, api.ErrOver},
		{api.OpCat, []api.Value{text(most), text("m")}, api.ErrLong},
		{api.OpCat, []api.Value{blob("m"), blob(most)}, api.ErrLong},
		{api.OpCat, []api.Value{text(most), text(most)}, api.ErrLong},
		{api.OpLt, []api.Value{n(1), text("a")}, api.ErrType},
		{api.OpCat, []api.Value{text("a"), blob("a")}, api.ErrType},
		{api.OpCat, []api.Value{text(most), blob(most)}, api.ErrType},
		{api.OpCat, []api.Value{n(1), n(2)}, api.ErrType},
		{api.OpCat, []api.Value{null, n(2)}, api.ErrType},
		{api.OpDiv, []api.Value{text("a"), n(0)}, api.ErrType},
		{api.OpDiv, []api.Value{y, null}, api.ErrType},
		{api.OpAdd, []api.Value{null, text("a")}, api.ErrType},
		{api.OpAnd, []api.Value{boolean(0), n(1)}, api.ErrType},
		{api.OpOr, []api.Value{n(1), null}, api.ErrType},
		{api.OpOr, []api.Value{y, n(1)}, api.ErrType},
		{api.OpEq, []api.Value{y, n(1)}, api.ErrType},
		{api.OpNot, []api.Value{n(0)}, api.ErrType},
		{api.OpNeg, []api.Value{y}, api.ErrType},
		{api.OpAbs, []api.Value{text("1")}, api.ErrType},
		{api.OpLen, []api.Value{n(10)}, api.ErrType},
		{api.OpLen, []api.Value{y}, api.ErrType},
	} {
		if got, e := sum.Do(c.o, c.l...); got != null || e != c.want {
			t.Errorf("Do(%d,%s) is%s, %v, not %v", c.o, short(c.l...), short(got), e, c.want)
		}
	}
}

// P2.2: no such operator, another number of values, a value that may not be: ahead of all else.
func TestDoOfWhatMayNotBe(t *testing.T) {
	check := func(o api.Op, l ...api.Value) {
		if got, e := sum.Do(o, l...); got != null || e != api.ErrArg {
			t.Errorf("Do(%d,%s), %d values, is%s, %v", o, short(l...), len(l), short(got), e)
		}
	}
	for _, o := range noOps() {
		for many := range 4 {
			check(o, slices.Repeat([]api.Value{null}, many)...)
			check(o, slices.Repeat([]api.Value{number(1)}, many)...)
		}
	}
	for _, k := range table() {
		for _, many := range []int{0, 1, 2, 3, 4, 5000} {
			if many != k.info.Many {
				check(k.op, slices.Repeat([]api.Value{null}, many)...)
				check(k.op, slices.Repeat([]api.Value{number(1)}, many)...)
			}
		}
		for _, v := range outside() {
			for _, beside := range []api.Value{null, boolean(1), number(0), text(most), blob("a"), v} {
				l := []api.Value{v, beside}
				check(k.op, l[:k.info.Many]...)
				slices.Reverse(l)
				check(k.op, l[2-k.info.Many:]...)
			}
		}
	}
}

// P2.2: numbers, held against those of any size.
func TestDoOfNumbers(t *testing.T) {
	zero := new(big.Int)
	sums := map[api.Op]func(a, b *big.Int) *big.Int{
		api.OpAdd: func(a, b *big.Int) *big.Int { return new(big.Int).Add(a, b) },
		api.OpSub: func(a, b *big.Int) *big.Int { return new(big.Int).Sub(a, b) },
		api.OpMul: func(a, b *big.Int) *big.Int { return new(big.Int).Mul(a, b) },
		api.OpDiv: func(a, b *big.Int) *big.Int { return new(big.Int).Quo(a, b) },
		api.OpMod: func(a, b *big.Int) *big.Int { return new(big.Int).Rem(a, b) },
		api.OpNeg: func(a, b *big.Int) *big.Int { return new(big.Int).Sub(zero, a) },
		api.OpAbs: func(a, b *big.Int) *big.Int { return new(big.Int).Abs(a) },
	}
	for o, f := range sums {
		for _, l := range lists(numbers(), 2) {
			vals := []api.Value{number(l[0]), number(l[1])}
			var want api.Value
			why := api.OK
			switch {
			case (o == api.OpDiv || o == api.OpMod) && l[1] == 0:
				why = api.ErrZero
			default:
				if n := f(big.NewInt(l[0]), big.NewInt(l[1])); n.IsInt64() {
					want = number(n.Int64())
				} else {
					why = api.ErrOver
				}
			}
			if o == api.OpNeg || o == api.OpAbs {
				vals = vals[:1]
			}
			if got, e := sum.Do(o, vals...); got != want || e != why {
				t.Errorf("Do(%d,%s) is%s, %v, not%s, %v", o, short(vals...), short(got), e, short(want), why)
			}
		}
	}
}

// P2.2: any two values, held against the document's table; a null beside each operator.
func TestDoOfAll(t *testing.T) {
	for _, k := range table() {
		for _, l := range lists(all(), k.info.Many) {
			var types []api.Type
			nulls := 0
			for _, v := range l {
				types = append(types, typeOf(v))
				if v == null {
					nulls++
				}
			}
			got, e := sum.Do(k.op, l...)
			wrong := func(why string) {
				t.Errorf("Do(%d,%s) is%s, %v: %s", k.op, short(l...), short(got), e, why)
			}
			order := value.Order(l[0], l[len(l)-1])
			switch {
			case !k.has(types):
				if got != null || e != api.ErrType {
					wrong("not ErrType")
				}
			case k.op == api.OpNull || k.op == api.OpSome:
				if got != truth((nulls == 1) == (k.op == api.OpNull)) || e != api.OK {
					wrong("whether it is null")
				}
			case k.op == api.OpAnd || k.op == api.OpOr:
				decides := truth(k.op == api.OpOr)
				want := truth(k.op == api.OpAnd)
				if slices.Contains(l, decides) {
					want = decides
				} else if nulls > 0 {
					want = null
				}
				if got != want || e != api.OK {
					wrong("not the table's")
				}
			case nulls > 0:
				if got != null || e != api.OK {
					wrong("not null")
				}
			case k.op >= api.OpEq && k.op <= api.OpGe:
				so := []bool{order == 0, order != 0, order < 0, order <= 0, order > 0, order >= 0}[k.op-api.OpEq]
				if got != truth(so) || e != api.OK {
					wrong("not by the order")
				}
			case k.op == api.OpCat:
				want, why := api.Value{Kind: l[0].Kind, Text: strings.Join([]string{l[0].Text, l[1].Text}, "")}, api.OK
				if len(l[0].Text)+len(l[1].Text) > 1000 {
					want, why = null, api.ErrLong
				}
				if got != want || e != why {
					wrong("not one behind the other")
				}
			case k.op == api.OpLen:
				if got != number(int64(len(l[0].Text))) || e != api.OK {
					wrong("not its bytes")
				}
			case k.op == api.OpNot:
				if got != boolean(1-l[0].Int) || e != api.OK {
					wrong("not the other one")
				}
			}
		}
	}
}

// P2.2: what is handed in stays, the room behind it included.
func TestDoLeavesWhatIsHandedIn(t *testing.T) {
	for _, k := range table() {
		for _, v := range []api.Value{null, boolean(0), number(-3), text("a"), blob("b")} {
			room := []api.Value{v, v, text("room"), text("room")}
			types := []api.Type{typeOf(v), typeOf(v), 7, 7}
			was, wasTypes := slices.Clone(room), slices.Clone(types)
			sum.Do(k.op, room[:k.info.Many]...)
			sum.Makes(k.op, types[:k.info.Many]...)
			if !slices.Equal(was, room) || !slices.Equal(wasTypes, types) {
				t.Errorf("%d: %v became %v, %v became %v", k.op, was, room, wasTypes, types)
			}
		}
	}
}

// P2.3
func TestMakes(t *testing.T) {
	const none, bools, ints, texts, blobs = api.TypeNone, api.TypeBool, api.TypeInt, api.TypeText, api.TypeBlob
	for _, c := range []struct {
		o    api.Op
		l    []api.Type
		want api.Type
		why  api.Errno
	}{
		{api.OpCat, []api.Type{texts, none}, texts, api.OK},
		{api.OpCat, []api.Type{none, blobs}, blobs, api.OK},
		{api.OpCat, []api.Type{none, none}, none, api.OK},
		{api.OpCat, []api.Type{texts, texts}, texts, api.OK},
		{api.OpCat, []api.Type{blobs, blobs}, blobs, api.OK},
		{api.OpCat, []api.Type{texts, blobs}, none, api.ErrType},
		{api.OpCat, []api.Type{none, ints}, none, api.ErrType},
		{api.OpCat, []api.Type{bools, none}, none, api.ErrType},
		{api.OpAdd, []api.Type{none, none}, ints, api.OK},
		{api.OpAdd, []api.Type{ints, texts}, none, api.ErrType},
		{api.OpEq, []api.Type{none, none}, bools, api.OK},
		{api.OpEq, []api.Type{blobs, blobs}, bools, api.OK},
		{api.OpEq, []api.Type{bools, ints}, none, api.ErrType},
		{api.OpAnd, []api.Type{none, bools}, bools, api.OK},
		{api.OpAnd, []api.Type{none, ints}, none, api.ErrType},
		{api.OpNull, []api.Type{none}, bools, api.OK},
		{api.OpSome, []api.Type{blobs}, bools, api.OK},
		{api.OpLen, []api.Type{none}, ints, api.OK},
		{api.OpLen, []api.Type{ints}, none, api.ErrType},
		{api.OpAbs, []api.Type{none}, ints, api.OK},
		{api.OpNot, []api.Type{none}, bools, api.OK},
	} {
		if got, e := sum.Makes(c.o, c.l...); got != c.want || e != c.why {
			t.Errorf("Makes(%d, %v) is %v, %v, not %v, %v", c.o, c.l, got, e, c.want, c.why)
		}
	}
}

// P2.3: all lists of types, of up to three, and numbers that are none.
func TestMakesOfAll(t *testing.T) {
	types := []api.Type{math.MinInt, -1, api.TypeNone, api.TypeBool, api.TypeInt, api.TypeText, api.TypeBlob, 5, math.MaxInt}
	none := func(u api.Type) bool { return u < api.TypeNone || u > api.TypeBlob }
	for many := range 4 {
		for _, l := range lists(types, many) {
			for _, o := range noOps() {
				if got, e := sum.Makes(o, l...); got != api.TypeNone || e != api.ErrArg {
					t.Errorf("Makes(%d, %v) is %v, %v", o, l, got, e)
				}
			}
			for _, k := range table() {
				want, why := k.info.Makes, api.OK
				switch {
				case many != k.info.Many || slices.ContainsFunc(l, none):
					want, why = api.TypeNone, api.ErrArg
				case !k.has(l):
					want, why = api.TypeNone, api.ErrType
				case k.op == api.OpCat:
					want = max(l[0], l[1])
				}
				if got, e := sum.Makes(k.op, l...); got != want || e != why {
					t.Errorf("Makes(%d, %v) is %v, %v, not %v, %v", k.op, l, got, e, want, why)
				}
			}
		}
	}
}

// P2.4
func TestDoIsOfTheTypeThatMakesTells(t *testing.T) {
	for _, k := range table() {
		for _, l := range lists(all(), k.info.Many) {
			var types []api.Type
			for _, v := range l {
				types = append(types, typeOf(v))
			}
			of, why := sum.Makes(k.op, types...)
			got, e := sum.Do(k.op, l...)
			if (e == api.ErrType) != (why == api.ErrType) || why == api.ErrArg || e == api.ErrArg {
				t.Errorf("%d,%s: Makes tells %v, Do %v", k.op, short(l...), why, e)
			}
			if e == api.OK && got != null && !value.Is(got, of) {
				t.Errorf("Do(%d,%s) is%s, and not of the type %d", k.op, short(l...), short(got), of)
			}
		}
	}
}

// P2.4
func TestSumsThatUndoOneAnother(t *testing.T) {
	undone, joined := 0, 0
	for _, l := range lists(numbers(), 2) {
		a, b := number(l[0]), number(l[1])
		if s, e := sum.Do(api.OpAdd, a, b); e == api.OK {
			undone++
			if got, e := sum.Do(api.OpSub, s, b); got != a || e != api.OK {
				t.Errorf("%v + %v - %v is %v, %v", a, b, b, got, e)
			}
		}
		q, e := sum.Do(api.OpDiv, a, b)
		r, f := sum.Do(api.OpMod, a, b)
		if e != api.OK || f != api.OK {
			continue
		}
		joined++
		p, e := sum.Do(api.OpMul, q, b)
		if got, f := sum.Do(api.OpAdd, p, r); got != a || e != api.OK || f != api.OK {
			t.Errorf("%v / %v is %v, %v left: %v, %v %v", a, b, q, r, got, e, f)
		}
	}
	if undone < 500 || joined < 900 {
		t.Errorf("only %d sums, %d quotients", undone, joined)
	}
}
