package frame_test

import (
	"bytes"
	"fmt"
	"math"
	"slices"
	"testing"

	"loupe/api"
	"loupe/frame"
	"loupe/octet"
)

// P5.2: bytes that the chapter's words come to, byte by byte.
func TestEncodeOfBytes(t *testing.T) {
	for _, c := range []struct {
		f     api.Frame
		first string
	}{
		{api.Frame{}, "\x00\x00\x00\x00\x00\x00\x00\x00\x00\x00\x00\x00\x00\x00\x00\x00\x00\x00\x00\x00\x00\x00\x00\x00\x00"},
		{api.Frame{Commit: true}, "\x00\x00\x00\x00\x00\x00\x00\x00\x00\x00\x00\x00\x00\x00\x00\x00\x01\x00\x00\x00\x00\x00\x00\x00\x00"},
		{api.Frame{Epoch: 1, Index: 2, Page: 3, Commit: true, Size: 4}, "\x00\x00\x00\x00\x00\x00\x00\x01\x00\x00\x00\x02\x00\x00\x00\x03\x01\x00\x00\x00\x04\x00\x00\x00\x00"},
		{api.Frame{Epoch: 0x0102030405060708, Index: 258, Page: 772, Link: 0x090a0b0c}, "\x01\x02\x03\x04\x05\x06\x07\x08\x00\x00\x01\x02\x00\x00\x03\x04\x00\x00\x00\x00\x00\x09\x0a\x0b\x0c"},
		{api.Frame{Epoch: math.MaxUint64, Index: 2000, Page: 2000, Commit: true, Size: 2000, Link: math.MaxUint32}, "\xff\xff\xff\xff\xff\xff\xff\xff\x00\x00\x07\xd0\x00\x00\x07\xd0\x01\x00\x00\x07\xd0\xff\xff\xff\xff"},
	} {
		c.f.Bytes = page(9)
		sum := octet.Sum([]byte(c.first), page(9))
		want := slices.Concat([]byte(c.first), octet.Four(sum), make([]byte, 35), page(9))
		if b, e := frame.Encode(c.f); !bytes.Equal(b, want) || e != api.OK {
			t.Errorf("Encode(%v) is %x, %v, not %x", c.f, b, e, want)
		}
		if n, e := frame.Sum(c.f); n != sum || e != api.OK {
			t.Errorf("Sum(%v) is %x, %v, not %x", c.f, n, e, sum)
		}
		wantFrame(t, "its bytes", want, c.f)
	}
}

// wantLaid holds a frame's bytes and its sum against those that the library lays, and that they are the frame's.
func wantLaid(t *testing.T, f api.Frame) {
	t.Helper()
	want := laidFrame(f)
	b, e := frame.Encode(f)
	if len(b) != 576 || !bytes.Equal(b, want) || e != api.OK {
		t.Errorf("Encode(%v) is %x, %v, not %x", f, b, e, want)
	}
	sum, e := frame.Sum(f)
	if !bytes.Equal(octet.Four(sum), want[25:29]) || e != api.OK {
		t.Errorf("Sum(%v) is %x, %v, not %x", f, sum, e, want[25:29])
	}
	wantFrame(t, "Decode of Encode", b, f)
}

// P5.2, P5.4
func TestEncode(t *testing.T) {
	for _, f := range frames() {
		if !mayFrame(f) {
			t.Fatalf("%v may not be", f)
		}
		wantLaid(t, f)
	}
}

// P5.2, P5.4: all indexes, pages and sizes.
func TestAllFrames(t *testing.T) {
	for n := range 2001 {
		wantLaid(t, api.Frame{Index: n, Bytes: page(byte(n))})
		wantLaid(t, api.Frame{Page: n, Bytes: page(byte(n))})
		wantLaid(t, api.Frame{Epoch: 1 << n, Index: n, Page: 2000 - n, Commit: true, Size: n, Link: uint32(n * n), Bytes: page(byte(n))})
	}
}

// P5.2: frames that may not be have no bytes and no sum.
func TestNoFrames(t *testing.T) {
	for _, f := range noFrames() {
		if mayFrame(f) {
			t.Fatalf("%v may be", f)
		}
		if b, e := frame.Encode(f); b != nil || e != api.ErrArg {
			t.Errorf("Encode(%v) is %x, %v", f, b, e)
		}
		if n, e := frame.Sum(f); n != 0 || e != api.ErrArg {
			t.Errorf("Sum(%v) is %x, %v", f, n, e)
		}
	}
}

// P5.2: bytes that are laid right, with the right sum, but of a frame that may not be.
func TestBytesOfNoFrames(t *testing.T) {
	b := page(7)
	for _, n := range []uint32{2001, 2002, 4000, 0x0107d0, 1 << 16, 1 << 31, 1<<31 + 1, math.MaxInt32, math.MaxUint32, math.MaxUint32 - 1, math.MaxUint32 - 2000} {
		wantNoFrame(t, "Index", layFrame(1, n, 2, 1, 3, 4, b))
		wantNoFrame(t, "Page", layFrame(1, 2, n, 1, 3, 4, b))
		wantNoFrame(t, "Size", layFrame(1, 2, 3, 1, n, 4, b))
		wantNoFrame(t, "Size without Commit", layFrame(1, 2, 3, 0, n, 4, b))
		wantNoFrame(t, "Index, Page, Size", layFrame(1, n, n, 0, n, 4, b))
	}
	for _, n := range sizes()[1:] {
		wantNoFrame(t, "Size without Commit", layFrame(1, 2, 3, 0, uint32(n), 4, b))
	}
	for commit := 2; commit < 256; commit++ {
		wantNoFrame(t, "Commit", layFrame(1, 2, 3, byte(commit), 0, 4, b))
		wantNoFrame(t, "Commit", layFrame(1, 2, 3, byte(commit), 5, 4, b))
	}
	wantFrame(t, "2000", layFrame(1, 2000, 2000, 1, 2000, 4, b), api.Frame{Epoch: 1, Index: 2000, Page: 2000, Commit: true, Size: 2000, Link: 4, Bytes: b})
	wantFrame(t, "no Commit", layFrame(1, 2, 3, 0, 0, 4, b), api.Frame{Epoch: 1, Index: 2, Page: 3, Link: 4, Bytes: b})
}

// P5.2: bytes that are not nine sectors', also with room behind them that would make them that.
func TestFrameOfOtherLengths(t *testing.T) {
	f := api.Frame{Epoch: 1, Index: 2, Page: 3, Commit: true, Size: 4, Link: 5, Bytes: page(6)}
	b := slices.Concat(laidFrame(f), make([]byte, 700))
	wantFrame(t, "576 bytes", b[:576], f)
	for many := range len(b) + 1 {
		if many != 576 {
			wantNoFrame(t, fmt.Sprintf("%d bytes", many), b[:many])
		}
	}
	wantNoFrame(t, "nil", nil)
	wantNoFrame(t, "twice", slices.Concat(b[:576], b[:576]))
	wantNoFrame(t, "without its first byte", b[1:577])
	for many := range 1025 {
		if many != 512 {
			wantNoFrame(t, fmt.Sprintf("a page of %d bytes", many), layFrame(1, 2, 3, 1, 4, 5, make([]byte, many)))
		}
	}
}

// P5.2: bytes of nine sectors that are none's.
func TestFrameOfOtherBytes(t *testing.T) {
	for _, c := range []byte{0, 1, 0x55, 0xaa, 0xff} {
		wantNoFrame(t, "one byte", bytes.Repeat([]byte{c}, 576))
	}
	f := api.Frame{Epoch: 1, Index: 2, Page: 3, Commit: true, Size: 4, Link: 5, Bytes: page(6)}
	b := laidFrame(f)
	sums := []uint32{octet.Sum(b[:25]), octet.Sum(b[64:]), octet.Sum(b[64:], b[:25]), octet.Sum(b[:25], b[29:]), octet.Sum(b), ^octet.Sum(b[:25], b[64:]), 0, f.Link}
	for _, sum := range sums {
		wantNoFrame(t, "another sum", slices.Concat(b[:25], octet.Four(sum), b[29:]))
	}
	wantFrame(t, "the sum", slices.Concat(b[:25], octet.Four(octet.Sum(b[:25], b[64:])), b[29:]), f)
	wantNoFrame(t, "the page ahead", slices.Concat(b[64:], b[:64]))
	wantNoFrame(t, "a head's, then the page", slices.Concat(laidHead(api.Head{Serial: 1, Epoch: 1}), b[64:]))
	for at := 64; at < 512; at += 64 {
		swapped := slices.Concat(b[:at], b[at+64:at+128], b[at:at+64], b[at+128:])
		wantNoFrame(t, "two sectors of the page swapped", swapped)
	}
}

// P5.2, P5.4: each bit of each byte turned over.
func TestTurnedFrames(t *testing.T) {
	l := append(frames()[:3], api.Frame{Epoch: 1, Index: 2, Page: 3, Commit: true, Size: 4, Link: 5, Bytes: page(6)}, api.Frame{Epoch: math.MaxUint64, Index: 2000, Page: 2000, Commit: true, Size: 2000, Link: math.MaxUint32, Bytes: page(7)}, api.Frame{Epoch: 9, Index: 1, Page: 1, Bytes: page(8)})
	for _, f := range l {
		b := laidFrame(f)
		for at := range b {
			for bit := range 8 {
				b[at] ^= 1 << bit
				wantNoFrame(t, fmt.Sprintf("bit %d of byte %d", bit, at), b)
				b[at] ^= 1 << bit
			}
		}
		wantFrame(t, "turned back", b, f)
	}
}

// P5.2: noughts that are none, in each other way.
func TestNoNoughts(t *testing.T) {
	b := laidFrame(api.Frame{Epoch: 1, Index: 2, Page: 3, Bytes: page(6)})
	for at := 29; at < 64; at++ {
		for c := 1; c < 256; c++ {
			b[at] = byte(c)
			wantNoFrame(t, fmt.Sprintf("byte %d is %x", at, c), b)
		}
		b[at] = 0
	}
}

// P5.2, P5.4: the first bytes of one frame, and the others of another one, at each place.
func TestTornFrames(t *testing.T) {
	l := []api.Frame{
		{Epoch: 1, Bytes: page(1)},
		{Epoch: 1, Index: 1, Page: 2, Commit: true, Size: 3, Bytes: page(2)},
		{Epoch: 2, Bytes: page(1)},
		{Epoch: 1, Bytes: page(200)},
	}
	wantTorn(t, l, laidFrame, wantFrame, wantNoFrame)
}

// P5.2: each field and each byte of the page is in the sum.
func TestSumOfAll(t *testing.T) {
	f := api.Frame{Epoch: 1, Index: 2, Page: 3, Commit: true, Size: 4, Link: 5, Bytes: page(6)}
	sums := map[uint32]bool{}
	add := func(f api.Frame) {
		sum, e := frame.Sum(f)
		if e != api.OK || sums[sum] {
			t.Errorf("Sum(%v) is %x, %v, as another one's", f, sum, e)
		}
		sums[sum] = true
	}
	add(f)
	for _, change := range []func(*api.Frame){
		func(f *api.Frame) { f.Epoch = 9 },
		func(f *api.Frame) { f.Index = 9 },
		func(f *api.Frame) { f.Page = 9 },
		func(f *api.Frame) { f.Size = 9 },
		func(f *api.Frame) { f.Size = 0 },
		func(f *api.Frame) { f.Size, f.Commit = 0, false },
		func(f *api.Frame) { f.Link = 9 },
	} {
		other := f
		change(&other)
		add(other)
	}
	for at := range f.Bytes {
		other := f
		other.Bytes = page(6)
		other.Bytes[at]++
		add(other)
	}
}

// P5.2: what is handed in is not changed and not kept, and each answer is new.
func TestFramesApart(t *testing.T) {
	f := api.Frame{Epoch: 1, Index: 2, Page: 3, Commit: true, Size: 4, Link: 5}
	var sameBytes func() bool
	f.Bytes, sameBytes = roomy(page(6))
	all := laidFrame(f)
	one, _ := frame.Encode(f)
	other, _ := frame.Encode(f)
	_, _ = frame.Sum(f)
	clear(one)
	_ = append(one, 1, 2, 3)
	if again, _ := frame.Encode(f); !sameBytes() || !bytes.Equal(other, all) || !bytes.Equal(again, all) {
		t.Errorf("Encode shares its bytes")
	}
	b, same := roomy(all)
	first, _ := frame.Decode(b)
	second, _ := frame.Decode(b)
	clear(first.Bytes)
	first.Bytes = append(first.Bytes, 1, 2, 3)
	if !same() || !sameFrame(second, f) {
		t.Errorf("Decode shares its bytes")
	}
	clear(b)
	if !sameFrame(second, f) {
		t.Errorf("Decode keeps its bytes")
	}
	clear(f.Bytes)
	if !bytes.Equal(other, all) {
		t.Errorf("Encode keeps its bytes")
	}
}
