package octet_test

import (
	"bytes"
	"encoding/binary"
	"hash/crc32"
	"math"
	"math/big"
	"slices"
	"strings"
	"testing"

	"loupe/api"
	"loupe/octet"
)

// numbers is numbers around all places where their bytes become more, and the edges of each size.
func numbers() []uint64 {
	l := []uint64{0, 1, 2, 3, 7, 100, 300, math.MaxInt32, math.MaxUint32, math.MaxInt64, math.MaxUint64, 0x0123456789abcdef, 0x8040201008040201, 0xaaaaaaaaaaaaaaaa, 0x5555555555555555}
	for up := range 64 {
		for _, n := range []uint64{1<<up - 2, 1<<up - 1, 1 << up, 1<<up + 1, 3 << up, 1<<63 | 1<<up} {
			l = append(l, n)
		}
	}
	slices.Sort(l)
	return slices.Compact(l)
}

// noNumbers is bytes that begin with no number's.
func noNumbers() [][]byte {
	long := func(many int, c byte, last ...byte) []byte {
		return append(bytes.Repeat([]byte{c}, many), last...)
	}
	l := [][]byte{
		nil,
		{},
		{0x80, 0},
		{0x81, 0},
		{0xff, 0},
		{0x80, 0x80, 0},
		{0xac, 0x82, 0, 7},
		{0x80, 0, 1},
		long(9, 0xff, 2),
		long(9, 0x80, 2),
		long(9, 0xff, 3),
		long(9, 0x80, 0x7f),
		long(9, 0x80, 0x40),
		long(9, 0xff, 0),
		long(9, 0x80, 0x80, 0),
		long(9, 0x80, 0x81, 0),
		long(9, 0x80, 0x80, 1),
		long(9, 0x80, 0x81, 1),
		long(9, 0xff, 0xff, 1),
		long(10, 0xff, 0),
		long(40, 0x80, 1),
	}
	for many := 1; many <= 12; many++ {
		l = append(l, long(many, 0x80), long(many, 0xff), long(many, 0x81), long(many, 0x80, 0), long(many, 0xff, 0))
	}
	for _, n := range numbers() {
		b := told(n)
		for end := range b {
			l = append(l, b[:end])
		}
	}
	return l
}

// told tells a number's bytes in another way.
func told(n uint64) []byte { return binary.AppendUvarint(nil, n) }

// readBig reads what bytes begin with by numbers of any size: a number, if the bytes that its last byte ends are just those that it has.
func readBig(b []byte) (uint64, int, api.Errno) {
	end := slices.IndexFunc(b, func(c byte) bool { return c < 0x80 })
	if end < 0 {
		return 0, 0, api.ErrOctet
	}
	n := new(big.Int)
	for at := end; at >= 0; at-- {
		n.Lsh(n, 7).Or(n, big.NewInt(int64(b[at]&0x7f)))
	}
	if !n.IsUint64() || !bytes.Equal(told(n.Uint64()), b[:end+1]) {
		return 0, 0, api.ErrOctet
	}
	return n.Uint64(), end + 1, api.OK
}

// place is a number, and where it begins.
type place struct {
	at int
	n  uint64
}

// readAll is what Numbers goes over.
func readAll(b []byte) []place {
	var l []place
	for at := 0; ; {
		n, many, e := readBig(b[at:])
		if e != api.OK {
			return l
		}
		l = append(l, place{at, n})
		at += many
	}
}

// first tells at most so many of what an iterator goes over.
func first(many int, numbers func(func(int, uint64) bool)) []place {
	var l []place
	for at, n := range numbers {
		if len(l) == many {
			break
		}
		l = append(l, place{at, n})
	}
	return l
}

// roomy is bytes with spare room behind them, which tells whether it was changed.
func roomy(b []byte) ([]byte, func() bool) {
	room := append(slices.Clone(b), "\x01room"...)
	was := slices.Clone(room)
	return room[:len(b)], func() bool { return bytes.Equal(room, was) }
}

// P3.1
func TestNumber(t *testing.T) {
	ten := bytes.Repeat([]byte{0xff}, 9)
	for _, c := range []struct {
		n    uint64
		want []byte
	}{
		{0, []byte{0}},
		{1, []byte{1}},
		{127, []byte{0x7f}},
		{128, []byte{0x80, 1}},
		{300, []byte{0xac, 2}},
		{16383, []byte{0xff, 0x7f}},
		{16384, []byte{0x80, 0x80, 1}},
		{1<<63 - 1, append(slices.Clone(ten[:8]), 0x7f)},
		{1 << 63, append(bytes.Repeat([]byte{0x80}, 9), 1)},
		{math.MaxUint64, append(slices.Clone(ten), 1)},
	} {
		if got := octet.Number(c.n); !bytes.Equal(got, c.want) {
			t.Errorf("Number(%d) is %x, not %x", c.n, got, c.want)
		}
	}
	for _, n := range numbers() {
		if got := octet.Number(n); !bytes.Equal(got, told(n)) {
			t.Errorf("Number(%d) is %x, not %x", n, got, told(n))
		}
	}
}

// P3.1, P3.4: what is read is what was told, whatever stands behind it.
func TestReadNumber(t *testing.T) {
	for _, n := range numbers() {
		for _, behind := range []string{"", "\x00", "\x01", "\x7f", "\x80", "\xff", "\x80\x00", "some more bytes"} {
			b := append(octet.Number(n), behind...)
			if got, many, e := octet.ReadNumber(b); got != n || many != len(told(n)) || e != api.OK {
				t.Errorf("ReadNumber(%x) is %d, %d, %v, not %d, %d", b, got, many, e, n, len(told(n)))
			}
		}
	}
}

// P3.1
func TestReadNumberOfNone(t *testing.T) {
	for _, b := range noNumbers() {
		if n, many, e := octet.ReadNumber(b); n != 0 || many != 0 || e != api.ErrOctet {
			t.Errorf("ReadNumber(%x) is %d, %d, %v", b, n, many, e)
		}
	}
}

// P3.1: all of two bytes, and those around the tenth, held against numbers of any size.
func TestReadNumberOfAll(t *testing.T) {
	check := func(b []byte) {
		n, many, e := octet.ReadNumber(b)
		if m, much, f := readBig(b); n != m || many != much || e != f {
			t.Errorf("ReadNumber(%x) is %d, %d, %v, not %d, %d, %v", b, n, many, e, m, much, f)
		}
	}
	for a := range 256 {
		check([]byte{byte(a)})
		for b := range 256 {
			check([]byte{byte(a), byte(b)})
			check([]byte{0x80, byte(a), byte(b)})
			for _, c := range []byte{0, 0x7f, 0x80, 0xff} {
				for ahead := 6; ahead <= 9; ahead++ {
					check(append(bytes.Repeat([]byte{c | 0x80}, ahead), byte(a), byte(b), c))
				}
			}
		}
	}
}

// P3.1
func TestNumbers(t *testing.T) {
	var all []byte
	for _, n := range numbers() {
		all = append(all, told(n)...)
	}
	lists := [][]byte{nil, {}, {0}, {0, 0, 0}, {0xac, 2, 7}, {7, 0xac, 2}, {7, 0x80, 0, 7}, {7, 0x80}, {1, 2, 0x83}, all, all[1:], all[:len(all)-1]}
	for _, b := range noNumbers() {
		lists = append(lists, b, append([]byte{5, 0xac, 2}, b...))
	}
	for _, b := range lists {
		want := readAll(b)
		if got := first(len(b)+1, octet.Numbers(b)); !slices.Equal(got, want) {
			t.Errorf("Numbers(%x) goes over %v, not %v", b, got, want)
		}
	}
	if got := readAll(all); len(got) != len(numbers()) {
		t.Errorf("all are %d, not %d", len(got), len(numbers()))
	}
}

// P3.1: places that the document's words come to, not worked out here.
func TestNumbersOfPlaces(t *testing.T) {
	b := []byte{5, 0xac, 2, 0, 0x80, 1, 0x80, 0, 9}
	want := []place{{0, 5}, {1, 300}, {3, 0}, {4, 128}}
	if got := first(9, octet.Numbers(b)); !slices.Equal(got, want) {
		t.Errorf("Numbers(%x) goes over %v, not %v", b, got, want)
	}
}

// P3.1: left early, gone over again, one inside the other.
func TestNumbersAgain(t *testing.T) {
	b := []byte{5, 0xac, 2, 0, 0x80, 1, 7}
	want := readAll(b)
	all := octet.Numbers(b)
	for many := range len(want) + 2 {
		if got := first(many, all); !slices.Equal(got, want[:min(many, len(want))]) {
			t.Errorf("the first %d are %v, not %v", many, got, want)
		}
	}
	calls := 0
	all(func(int, uint64) bool { calls++; return false })
	if calls != 1 {
		t.Errorf("left at once, it told %d", calls)
	}
	var got, again []place
	for at, n := range all {
		got = append(got, place{at, n})
		again = append(again, first(len(b), all)...)
	}
	if !slices.Equal(got, want) || !slices.Equal(again, slices.Repeat(want, len(want))) {
		t.Errorf("one inside the other: %v, %v", got, again)
	}
}

// P3.1: what is gone over is as it was when it was asked for.
func TestNumbersAsTheyWere(t *testing.T) {
	b := []byte{5, 0xac, 2, 0, 0x80, 1, 7}
	want := readAll(b)
	all := octet.Numbers(b)
	b[0] = 0x80
	if got := first(len(b), all); !slices.Equal(got, want) {
		t.Errorf("changed behind the asking: %v, not %v", got, want)
	}
	b[0] = 5
	var got []place
	for at, n := range octet.Numbers(b) {
		got = append(got, place{at, n})
		for i := range b {
			b[i] = 0xff
		}
	}
	if !slices.Equal(got, want) {
		t.Errorf("changed under way: %v, not %v", got, want)
	}
}

// P3.2
func TestFixed(t *testing.T) {
	for _, c := range []struct {
		n     uint64
		eight string
	}{
		{0, "\x00\x00\x00\x00\x00\x00\x00\x00"},
		{1, "\x00\x00\x00\x00\x00\x00\x00\x01"},
		{258, "\x00\x00\x00\x00\x00\x00\x01\x02"},
		{0x01020304, "\x00\x00\x00\x00\x01\x02\x03\x04"},
		{math.MaxUint32, "\x00\x00\x00\x00\xff\xff\xff\xff"},
		{1 << 32, "\x00\x00\x00\x01\x00\x00\x00\x00"},
		{0x0102030405060708, "\x01\x02\x03\x04\x05\x06\x07\x08"},
		{0xfedcba9876543210, "\xfe\xdc\xba\x98\x76\x54\x32\x10"},
		{1 << 63, "\x80\x00\x00\x00\x00\x00\x00\x00"},
		{math.MaxUint64, "\xff\xff\xff\xff\xff\xff\xff\xff"},
	} {
		if got := string(octet.Eight(c.n)); got != c.eight {
			t.Errorf("Eight(%d) is %x", c.n, got)
		}
		if got := string(octet.Four(uint32(c.n))); got != c.eight[4:] {
			t.Errorf("Four(%d) is %x", uint32(c.n), got)
		}
	}
}

// P3.2, P3.4: what is read is what was told, and only the first four, eight count.
func TestReadFixed(t *testing.T) {
	for _, n := range numbers() {
		for _, behind := range []string{"", "\x00", "\xff", "\x80\x01", "eight more bytes"} {
			b := append(octet.Eight(n), behind...)
			if got, e := octet.ReadEight(b); got != n || e != api.OK || binary.BigEndian.Uint64(b) != n {
				t.Errorf("ReadEight(%x) is %d, %v", b, got, e)
			}
			if got, e := octet.ReadFour(b); got != uint32(n>>32) || e != api.OK {
				t.Errorf("ReadFour(%x) is %d, %v", b, got, e)
			}
			b = append(octet.Four(uint32(n)), behind...)
			if got, e := octet.ReadFour(b); got != uint32(n) || e != api.OK || binary.BigEndian.Uint32(b) != uint32(n) {
				t.Errorf("ReadFour(%x) is %d, %v", b, got, e)
			}
		}
	}
}

// P3.2: fewer bytes, also where there is room behind them.
func TestReadFixedOfFewer(t *testing.T) {
	all := []byte("\x01\x02\x03\x04\x05\x06\x07\x08\x09")
	for many := range 8 {
		if n, e := octet.ReadEight(all[:many]); n != 0 || e != api.ErrOctet {
			t.Errorf("ReadEight of %d bytes is %d, %v", many, n, e)
		}
		n, e := octet.ReadFour(all[:many])
		if many < 4 && (n != 0 || e != api.ErrOctet) || many >= 4 && (n != 0x01020304 || e != api.OK) {
			t.Errorf("ReadFour of %d bytes is %d, %v", many, n, e)
		}
	}
	if n, e := octet.ReadEight(nil); n != 0 || e != api.ErrOctet {
		t.Errorf("ReadEight(nil) is %d, %v", n, e)
	}
	if n, e := octet.ReadFour(nil); n != 0 || e != api.ErrOctet {
		t.Errorf("ReadFour(nil) is %d, %v", n, e)
	}
}

// texts is strings around all places where their lengths become more bytes.
func texts() []string {
	l := []string{"", "a", "ab", "\x00", "\xff\xfe", "é", "it's"}
	for _, many := range []int{126, 127, 128, 129, 300, 1000, 1001, 16383, 16384, 16385, 1 << 21} {
		l = append(l, strings.Repeat("t", many), strings.Repeat("\x80", many))
	}
	return l
}

// P3.3, P3.4
func TestString(t *testing.T) {
	for s, want := range map[string]string{
		"":                       "\x00",
		"ab":                     "\x02ab",
		"\x80":                   "\x01\x80",
		strings.Repeat("a", 127): "\x7f" + strings.Repeat("a", 127),
		strings.Repeat("a", 128): "\x80\x01" + strings.Repeat("a", 128),
		strings.Repeat("a", 300): "\xac\x02" + strings.Repeat("a", 300),
	} {
		if got := string(octet.String(s)); got != want {
			t.Errorf("String of %d bytes is %x", len(s), got)
		}
	}
	for _, s := range texts() {
		b := octet.String(s)
		if want := string(told(uint64(len(s)))) + s; string(b) != want {
			t.Errorf("String of %d bytes is not its length's bytes, and its own", len(s))
		}
		for _, behind := range []string{"", "\x00", "more", "\xff\xff"} {
			if got, many, e := octet.ReadString(append(slices.Clone(b), behind...)); got != s || many != len(b) || e != api.OK {
				t.Errorf("ReadString of %d bytes and %d is %d bytes, %d, %v", len(b), len(behind), len(got), many, e)
			}
		}
	}
}

// P3.3: fewer bytes than the length tells, a length that is none, lengths above what there can be.
func TestReadStringOfNone(t *testing.T) {
	check := func(b []byte) {
		if s, many, e := octet.ReadString(b); s != "" || many != 0 || e != api.ErrOctet {
			t.Errorf("ReadString of %d bytes is %q, %d, %v", len(b), s, many, e)
		}
	}
	for _, b := range noNumbers() {
		check(b)
	}
	for _, s := range texts() {
		b := octet.String(s)
		for end := range min(len(b), 400) {
			check(b[:end])
			check(b[:len(b)-1-end])
		}
	}
	for _, n := range numbers() {
		for _, behind := range []string{"", "a", "abcdefghijkl"} {
			if n > uint64(len(behind)) {
				check(append(told(n), behind...))
			}
		}
	}
	for back := range uint64(20) {
		check(append(told(math.MaxUint64-back), "some twenty bytes or so"...))
		check(append(told(1<<63-back), "some twenty bytes or so"...))
		check(append(told(1<<63+back), "some twenty bytes or so"...))
		check(append(told(1<<32+back), "some twenty bytes or so"...))
	}
	check([]byte("\x82\x00ab"))
}

// P3.3
func TestSum(t *testing.T) {
	for _, c := range []struct {
		l    []string
		want uint32
	}{
		{nil, 0},
		{[]string{""}, 0},
		{[]string{"", "", ""}, 0},
		{[]string{"123456789"}, 0xcbf43926},
		{[]string{"1234", "", "56789"}, 0xcbf43926},
		{[]string{"", "1", "2345678", "9", ""}, 0xcbf43926},
		{[]string{"\x00"}, 0xd202ef8d},
		{[]string{"\xff"}, 0xff000000},
		{[]string{"a"}, 0xe8b7be43},
		{[]string{"\x00\x00\x00\x00"}, 0x2144df1c},
		{[]string{"\xff\xff\xff\xff"}, 0xffffffff},
	} {
		var l [][]byte
		for _, s := range c.l {
			l = append(l, []byte(s))
		}
		if got := octet.Sum(l...); got != c.want {
			t.Errorf("Sum(%q) is %#x, not %#x", c.l, got, c.want)
		}
	}
	if octet.Sum() != 0 || octet.Sum(nil) != 0 || octet.Sum(nil, []byte{}, nil) != 0 {
		t.Errorf("the sum of no bytes is %d, %d, %d", octet.Sum(), octet.Sum(nil), octet.Sum(nil, []byte{}, nil))
	}
}

// many tells so many bytes, all unlike.
func many(n int) []byte {
	b := make([]byte, n)
	for i := range b {
		b[i] = byte(i*167 + i>>8*31)
	}
	return b
}

// P3.3: all bytes, joined: wherever they are cut.
func TestSumOfLists(t *testing.T) {
	for c := range 256 {
		if got, want := octet.Sum([]byte{byte(c)}), crc32.ChecksumIEEE([]byte{byte(c)}); got != want {
			t.Errorf("Sum(%x) is %#x, not %#x", c, got, want)
		}
	}
	for _, n := range []int{1, 2, 3, 64, 255, 256, 257, 512, 1000, 70000} {
		b := many(n)
		want := crc32.ChecksumIEEE(b)
		var singly [][]byte
		for i := range b {
			singly = append(singly, b[i:i+1])
		}
		if got := octet.Sum(b); got != want {
			t.Errorf("the sum of %d bytes is %#x, not %#x", n, got, want)
		}
		if got := octet.Sum(singly...); got != want {
			t.Errorf("the sum of %d bytes, each in a list, is %#x, not %#x", n, got, want)
		}
		for cut := 0; cut <= n; cut += 1 + n/50 {
			if got := octet.Sum(b[:cut], b[cut:]); got != want {
				t.Errorf("the sum of %d bytes and %d is %#x, not %#x", cut, n-cut, got, want)
			}
		}
	}
}

// P3.4: no number's bytes begin another one's.
func TestNoNumberBeginsAnother(t *testing.T) {
	l := numbers()
	for n := range uint64(1000) {
		l = append(l, n)
	}
	slices.Sort(l)
	l = slices.Compact(l)
	var all [][]byte
	for _, n := range l {
		all = append(all, octet.Number(n))
	}
	for i, a := range all {
		for j, b := range all {
			if i != j && bytes.HasPrefix(a, b) {
				t.Errorf("%x of %d begins with %x of %d", a, l[i], b, l[j])
			}
		}
	}
}

// P3.4: two lists of bytes that differ in one bit.
func TestSumOfOneBit(t *testing.T) {
	for _, n := range []int{1, 2, 64, 300, 512} {
		for _, b := range [][]byte{make([]byte, n), bytes.Repeat([]byte{0xff}, n), many(n)} {
			was := octet.Sum(b)
			for at := range b {
				for bit := range 8 {
					b[at] ^= 1 << bit
					if octet.Sum(b) == was || octet.Sum(b[:at], b[at:]) == was {
						t.Errorf("%d bytes, the bit %d of the byte %d turned over: their sum is the same", n, bit, at)
					}
					b[at] ^= 1 << bit
				}
			}
		}
	}
}

// P3.1 to P3.3: what is handed in stays, the room behind it included, and the room is not read.
func TestWhatIsHandedInStays(t *testing.T) {
	for _, b := range [][]byte{nil, {0x80}, {0}, {0xac, 2, 7}, []byte("\x02ab"), []byte("\x03ab"), []byte("\x01abcdefgh"), []byte("\x81\x01abc"), []byte("123456789")} {
		bare, kept := roomy(b)
		n, size, e := octet.ReadNumber(bare)
		if m, much, f := readBig(slices.Clip(b)); n != m || size != much || e != f {
			t.Errorf("ReadNumber(%x), room behind it, is %d, %d, %v", b, n, size, e)
		}
		octet.ReadFour(bare)
		octet.ReadEight(bare)
		octet.ReadString(bare)
		octet.Sum(bare, bare)
		for range octet.Numbers(bare) {
		}
		if !kept() {
			t.Errorf("%x was changed, or what is behind it", b)
		}
	}
	short, _ := roomy([]byte("\x04abc"))
	if s, many, e := octet.ReadString(short); s != "" || many != 0 || e != api.ErrOctet {
		t.Errorf("ReadString took the room: %q, %d, %v", s, many, e)
	}
}

// P3.1 to P3.3: an answer is new memory.
func TestAnswersAreNew(t *testing.T) {
	for name, tell := range map[string]func() []byte{
		"Number": func() []byte { return octet.Number(300) },
		"Four":   func() []byte { return octet.Four(300) },
		"Eight":  func() []byte { return octet.Eight(300) },
		"String": func() []byte { return octet.String("ab") },
	} {
		a, want := tell(), tell()
		b := tell()
		for i := range a {
			a[i]++
		}
		a = append(a, "more"...)
		if !bytes.Equal(b, want) || !bytes.Equal(tell(), want) {
			t.Errorf("%s: a change of an answer changed another one", name)
		}
	}
	b := []byte("\x02ab")
	s, _, _ := octet.ReadString(b)
	b[1] = 'z'
	if s != "ab" {
		t.Errorf("a change of what was read changed what was told: %q", s)
	}
}
