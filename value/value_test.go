package value_test

import (
	"math"
	"slices"
	"strings"
	"testing"

	"loupe/api"
	"loupe/value"
)

func boolean(n int64) api.Value { return api.Value{Kind: api.ValueBool, Int: n} }
func number(n int64) api.Value  { return api.Value{Kind: api.ValueInt, Int: n} }
func text(s string) api.Value   { return api.Value{Kind: api.ValueText, Text: s} }
func blob(s string) api.Value   { return api.Value{Kind: api.ValueBlob, Text: s} }

var (
	null = api.Value{}
	most = strings.Repeat("m", api.MaxBytes)
	over = most + "m"
)

// rising is values that may be, each less than the next one.
func rising() []api.Value {
	return []api.Value{
		null,
		boolean(0), boolean(1),
		number(math.MinInt64), number(-10), number(-9), number(-1), number(0), number(1), number(9), number(10), number(math.MaxInt64),
		text(""), text("\x00"), text("\n"), text("'"), text("''"), text("'''"), text("--"), text("10"), text("9"), text("Z"), text("a"), text("a'b"), text("aa"), text("it's"), text(most), text("null"), text("x'00'"), text("é"), text("\xe2'"), text("\xff"), text("\xff\xfe"),
		blob(""), blob("\x00"), blob("\x00\xff"), blob("'"), blob("A"), blob(most), blob("\x7f"), blob("\x80"), blob("\xff"), blob(strings.Repeat("\xff", api.MaxBytes)),
	}
}

// outside is values that may not be, with what Check tells of them.
func outside() map[api.Value]api.Errno {
	return map[api.Value]api.Errno{
		text(over): api.ErrLong,
		blob(over): api.ErrLong,
		{Kind: api.ValueText, Int: 1, Text: over}:   api.ErrLong,
		{Kind: api.ValueNull, Text: over}:           api.ErrLong,
		{Kind: api.ValueBool, Int: 2, Text: over}:   api.ErrLong,
		{Kind: 5, Text: over}:                       api.ErrLong,
		{Kind: -1}:                                  api.ErrArg,
		{Kind: 5}:                                   api.ErrArg,
		{Kind: math.MaxInt}:                         api.ErrArg,
		{Kind: math.MinInt}:                         api.ErrArg,
		{Kind: api.ValueNull, Int: 1}:               api.ErrArg,
		{Kind: api.ValueNull, Text: "a"}:            api.ErrArg,
		boolean(2):                                  api.ErrArg,
		boolean(-1):                                 api.ErrArg,
		boolean(math.MinInt64):                      api.ErrArg,
		{Kind: api.ValueBool, Int: 1, Text: "true"}: api.ErrArg,
		{Kind: api.ValueBool, Text: "a"}:            api.ErrArg,
		{Kind: api.ValueInt, Int: 1, Text: "1"}:     api.ErrArg,
		{Kind: api.ValueText, Int: 1, Text: "a"}:    api.ErrArg,
		{Kind: api.ValueText, Int: -1}:              api.ErrArg,
		{Kind: api.ValueBlob, Int: 1, Text: "a"}:    api.ErrArg,
		{Kind: api.ValueBlob, Int: 1, Text: most}:   api.ErrArg,
	}
}

// P1.1
func TestCheck(t *testing.T) {
	for _, v := range rising() {
		if e := value.Check(v); e != api.OK {
			t.Errorf("Check(%v) is %v", v, e)
		}
	}
	for v, want := range outside() {
		if e := value.Check(v); e != want {
			t.Errorf("Check(%v) is %v, not %v", v, e, want)
		}
	}
}

// P1.1, P1.4
func TestOrder(t *testing.T) {
	l := rising()
	for i, a := range l {
		for j, b := range l {
			want := 0
			if i < j {
				want = -1
			} else if i > j {
				want = 1
			}
			if got := value.Order(a, b); got != want {
				t.Errorf("Order(%v, %v) is %d, not %d", a, b, got, want)
			}
		}
	}
}

// P1.1
func TestOrderOfOthers(t *testing.T) {
	l := []api.Value{
		{Kind: math.MinInt, Int: 9, Text: "z"},
		{Kind: -1, Int: 9, Text: "z"},
		{Int: -1, Text: "z"},
		{},
		{Text: "a"},
		{Text: "b"},
		{Int: 1},
		{Kind: api.ValueBool, Int: -1},
		{Kind: api.ValueBool},
		{Kind: api.ValueBool, Text: "a"},
		{Kind: api.ValueBool, Int: 2},
		{Kind: api.ValueInt, Int: 1, Text: "b"},
		{Kind: api.ValueInt, Int: 2, Text: "a"},
		{Kind: api.ValueText, Text: over},
		{Kind: api.ValueText, Text: over + "m"},
		{Kind: api.ValueText, Int: 1, Text: "a"},
		{Kind: api.ValueBlob, Int: math.MinInt64, Text: "z"},
		{Kind: api.ValueBlob, Int: math.MaxInt64, Text: "a"},
		{Kind: 5},
		{Kind: math.MaxInt},
	}
	for i, a := range l {
		if value.Order(a, a) != 0 {
			t.Errorf("Order of %v and itself is %d", a, value.Order(a, a))
		}
		for _, b := range l[i+1:] {
			if value.Order(a, b) != -1 || value.Order(b, a) != 1 {
				t.Errorf("Order of %v and %v is %d, the other way round %d", a, b, value.Order(a, b), value.Order(b, a))
			}
		}
	}
}

// P1.2
func TestKnown(t *testing.T) {
	truths := map[api.Value]api.Truth{boolean(0): api.False, boolean(1): api.True, null: api.Unknown}
	check := func(v api.Value) {
		want, is := truths[v]
		if got, ok := value.Known(v); got != want || ok != is {
			t.Errorf("Known(%v) is %v, %v", v, got, ok)
		}
	}
	for _, v := range rising() {
		check(v)
	}
	for v := range outside() {
		check(v)
	}
}

// P1.2
func TestOf(t *testing.T) {
	for truth, want := range map[api.Truth]api.Value{
		api.False: boolean(0), api.True: boolean(1), api.Unknown: null,
		3: null, -1: null, math.MaxInt: null, math.MinInt: null,
	} {
		if got := value.Of(truth); got != want {
			t.Errorf("Of(%d) is %v, not %v", truth, got, want)
		}
	}
}

// P1.2
func TestTruths(t *testing.T) {
	const f, y, u = api.False, api.True, api.Unknown
	for _, c := range []struct {
		l       []api.Truth
		and, or api.Truth
	}{
		{nil, y, f},
		{[]api.Truth{}, y, f},
		{[]api.Truth{f}, f, f},
		{[]api.Truth{y}, y, y},
		{[]api.Truth{u}, u, u},
		{[]api.Truth{3}, u, u},
		{[]api.Truth{-1}, u, u},
		{[]api.Truth{f, f}, f, f},
		{[]api.Truth{f, u}, f, u},
		{[]api.Truth{f, y}, f, y},
		{[]api.Truth{u, f}, f, u},
		{[]api.Truth{u, u}, u, u},
		{[]api.Truth{u, y}, u, y},
		{[]api.Truth{y, f}, f, y},
		{[]api.Truth{y, u}, u, y},
		{[]api.Truth{y, y}, y, y},
		{[]api.Truth{9, y}, u, y},
		{[]api.Truth{f, 9}, f, u},
		{[]api.Truth{math.MinInt, math.MaxInt}, u, u},
		{[]api.Truth{y, y, y, u}, u, y},
		{[]api.Truth{u, y, y, f}, f, y},
		{[]api.Truth{f, f, f, u}, f, u},
		{slices.Repeat([]api.Truth{y}, 5000), y, y},
		{slices.Repeat([]api.Truth{f}, 5000), f, f},
	} {
		was := slices.Clone(c.l)
		if got := value.And(c.l...); got != c.and {
			t.Errorf("And(%v) is %v", c.l, got)
		}
		if got := value.Or(c.l...); got != c.or {
			t.Errorf("Or(%v) is %v", c.l, got)
		}
		if !slices.Equal(was, c.l) {
			t.Errorf("%v became %v", was, c.l)
		}
	}
	for truth, want := range map[api.Truth]api.Truth{f: y, y: f, u: u, 3: u, -1: u, math.MinInt: u} {
		if got := value.Not(truth); got != want {
			t.Errorf("Not(%d) is %v", truth, got)
		}
	}
}

// P1.4
func TestNotOfAndIsOrOfNots(t *testing.T) {
	for n := range 5 * 5 * 5 * 5 {
		var l, nots []api.Truth
		for ; n > 0; n /= 5 {
			l = append(l, api.Truth(n%5)-1)
			nots = append(nots, value.Not(l[len(l)-1]))
		}
		if value.Not(value.And(l...)) != value.Or(nots...) || value.Not(value.Or(l...)) != value.And(nots...) {
			t.Errorf("%v: Not of And is %v, Or of Nots %v", l, value.Not(value.And(l...)), value.Or(nots...))
		}
	}
}

// literals is what Literal and Parse make of one another.
func literals() map[string]api.Value {
	return map[string]api.Value{
		"null":                                  null,
		"false":                                 boolean(0),
		"true":                                  boolean(1),
		"0":                                     number(0),
		"-1":                                    number(-1),
		"10":                                    number(10),
		"-9223372036854775808":                  number(math.MinInt64),
		"9223372036854775807":                   number(math.MaxInt64),
		"''":                                    text(""),
		"''''":                                  text("'"),
		"''''''":                                text("''"),
		"'it''s'":                               text("it's"),
		"'''a'":                                 text("'a"),
		"'a'''":                                 text("a'"),
		"'null'":                                text("null"),
		"'x''00'''":                             text("x'00'"),
		"' A\n\t\x00é'":                         text(" A\n\t\x00é"),
		"'\xff''\xe2'''":                        text("\xff'\xe2'"),
		"'\ufffd'":                              text("\ufffd"),
		"'" + most + "'":                        text(most),
		"'" + strings.Repeat("''", 1000) + "'":  text(strings.Repeat("'", 1000)),
		"x''":                                   blob(""),
		"x'00ff'":                               blob("\x00\xff"),
		"x'0123456789abcdef'":                   blob("\x01\x23\x45\x67\x89\xab\xcd\xef"),
		"x'27'":                                 blob("'"),
		"x'" + strings.Repeat("f0", 1000) + "'": blob(strings.Repeat("\xf0", 1000)),
	}
}

// P1.3
func TestLiteral(t *testing.T) {
	for want, v := range literals() {
		if got, e := value.Literal(v); got != want || e != api.OK {
			t.Errorf("Literal(%v) is %q, %v", v, got, e)
		}
	}
	for v, want := range outside() {
		if got, e := value.Literal(v); got != "" || e != want {
			t.Errorf("Literal(%v) is %q, %v, not %v", v, got, e, want)
		}
	}
}

// P1.3
func TestParse(t *testing.T) {
	for s, want := range literals() {
		if got, e := value.Parse(s); got != want || e != api.OK {
			t.Errorf("Parse(%q) is %v, %v", s, got, e)
		}
	}
	for _, s := range []string{
		"'" + over + "'",
		"'" + most + "'''",
		"'" + strings.Repeat("''", 1001) + "'",
		"'" + strings.Repeat("é", 501) + "'",
		"x'" + strings.Repeat("00", 1001) + "'",
		"x'" + strings.Repeat("ff", 1<<16) + "'",
	} {
		if got, e := value.Parse(s); got != null || e != api.ErrLong {
			t.Errorf("Parse(%.20q..), %d bytes, is %v, %v", s, len(s), got, e)
		}
	}
}

// P1.3
func TestParseOfNoLiteral(t *testing.T) {
	for _, s := range []string{
		"", " ", "\x00", "NULL", "Null", "nul", "nulll", "null ", " null", "True", "truefalse", "unknown", "a", "a'b'",
		"-", "--1", "+1", "+0", "-0", "00", "01", "-01", " 1", "1 ", "1_000", "0x1", "1.0", "1e3", "1a", "\u0661", "１",
		"9223372036854775808", "-9223372036854775809", "18446744073709551616", strings.Repeat("9", 5000), strings.Repeat("0", 5000),
		"'", "'a", "a'", "'''", "'''''", "'a'b'", "'a''", "'a' ", " 'a'", "'a''b", "''a", "''a'", "'a'''b'", "'\xff", "'é'é'", "\"a\"",
		"x", "x'", "x'0", "x'0'", "x'00", "x'0g'", "x'g0'", "x'0G'", "x'FF'", "X'00'", "x'00'00'", "x'00''", "x'00' ", "x 'ff'", "x'0 '", "x' 0'", "x'-1'", "x'0x'", "x'é'", "xx'00'", "x00",
		"'" + over, "'" + over + "'a'", "x'" + strings.Repeat("00", 1001), "x'" + strings.Repeat("0g", 1001) + "'", "x'" + strings.Repeat("0", 2003) + "'",
	} {
		if got, e := value.Parse(s); got != null || e != api.ErrValue {
			t.Errorf("Parse(%q) is %v, %v", s, got, e)
		}
	}
}

// P1.3
func TestIs(t *testing.T) {
	for _, v := range rising() {
		for _, of := range []api.Type{math.MinInt, -1, api.TypeNone, api.TypeBool, api.TypeInt, api.TypeText, api.TypeBlob, 5, math.MaxInt} {
			want := of >= api.TypeBool && of <= api.TypeBlob && (v == null || int(of) == int(v.Kind))
			if value.Is(v, of) != want {
				t.Errorf("Is(%v, %d) is %v", v, of, !want)
			}
		}
	}
	for v := range outside() {
		for of := api.TypeNone - 1; of <= api.TypeBlob+1; of++ {
			if value.Is(v, of) || value.Is(v, api.Type(v.Kind)) {
				t.Errorf("%v may not be, and is of the type %d", v, of)
			}
		}
	}
}

// P1.3
func TestTypes(t *testing.T) {
	types := []api.Type{api.TypeBool, api.TypeInt, api.TypeText, api.TypeBlob}
	names := []string{"bool", "int", "text", "blob"}
	all := value.Types()
	for leave := range 6 {
		var gotTypes []api.Type
		var gotNames []string
		for of, name := range all {
			if len(gotTypes) == leave {
				break
			}
			gotTypes, gotNames = append(gotTypes, of), append(gotNames, name)
		}
		n := min(leave, 4)
		if !slices.Equal(gotTypes, types[:n]) || !slices.Equal(gotNames, names[:n]) {
			t.Errorf("left behind %d: %v %v", leave, gotTypes, gotNames)
		}
	}
	for a := range all {
		for range all {
			types = append(types, a)
		}
	}
	if len(types) != 4+4*4 {
		t.Errorf("one inside the other: %v", types)
	}
}

// P1.4
func TestParseOfLiteral(t *testing.T) {
	for _, v := range rising() {
		s, e := value.Literal(v)
		if got, f := value.Parse(s); got != v || e != api.OK || f != api.OK {
			t.Errorf("%v: %q %v, %v %v", v, s, e, got, f)
		}
	}
	for b := range 256 {
		for _, v := range []api.Value{text(string([]byte{byte(b)})), text("'" + string([]byte{byte(b), 'a'}) + "'"), blob(string([]byte{byte(b)}))} {
			s, _ := value.Literal(v)
			if got, e := value.Parse(s); got != v || e != api.OK {
				t.Errorf("%v: %q, %v %v", v, s, got, e)
			}
		}
	}
}

// P1.4: all short texts of what literals are made of.
func TestLiteralOfParse(t *testing.T) {
	const made = "'x01a-\xc3"
	right := 0
	var try func(s string, more int)
	try = func(s string, more int) {
		v, e := value.Parse(s)
		switch got, f := value.Literal(v); {
		case e == api.ErrValue && v == null:
		case e == api.OK && f == api.OK && got == s:
			right++
		default:
			t.Errorf("Parse(%q) is %v, %v; its literal %q, %v", s, v, e, got, f)
		}
		for i := 0; more > 0 && i < len(made); i++ {
			try(s+made[i:i+1], more-1)
		}
	}
	try("", 6)
	// Counted by hand: 95 numbers of the digits 0 and 1, 10 blobs, 1677 texts.
	if right != 95+10+1677 {
		t.Errorf("%d literals", right)
	}
}
