package frame_test

import (
	"bytes"
	"fmt"
	"math"
	"slices"
	"testing"

	"loupe/api"
	"loupe/frame"
	"loupe/octet"
)

// P5.2: bytes that the chapter's words come to, byte by byte.
func TestEncodeHeadOfBytes(t *testing.T) {
	for _, c := range []struct {
		h   api.Head
		all string
	}{
		{api.Head{Serial: 1, Epoch: 2}, "\x00\x00\x00\x00\x00\x00\x00\x01\x00\x00\x00\x00\x00\x00\x00\x02\x00\x00\x00\x00\x00\x00\x00\x00"},
		{api.Head{}, "\x00\x00\x00\x00\x00\x00\x00\x00\x00\x00\x00\x00\x00\x00\x00\x00\x00\x00\x00\x00\x00\x00\x00\x00"},
		{api.Head{Serial: 0x0102030405060708, Epoch: 0x090a0b0c0d0e0f10, Size: 258, Count: 772}, "\x01\x02\x03\x04\x05\x06\x07\x08\x09\x0a\x0b\x0c\x0d\x0e\x0f\x10\x00\x00\x01\x02\x00\x00\x03\x04"},
		{api.Head{Serial: math.MaxUint64, Epoch: math.MaxUint64, Size: 2000, Count: 2000}, "\xff\xff\xff\xff\xff\xff\xff\xff\xff\xff\xff\xff\xff\xff\xff\xff\x00\x00\x07\xd0\x00\x00\x07\xd0"},
		{api.Head{Serial: 1 << 63, Epoch: 1 << 32, Size: 2000}, "\x80\x00\x00\x00\x00\x00\x00\x00\x00\x00\x00\x01\x00\x00\x00\x00\x00\x00\x07\xd0\x00\x00\x00\x00"},
		{api.Head{Count: 2000}, "\x00\x00\x00\x00\x00\x00\x00\x00\x00\x00\x00\x00\x00\x00\x00\x00\x00\x00\x00\x00\x00\x00\x07\xd0"},
	} {
		copied := append([]byte(c.all), octet.Four(octet.Sum([]byte(c.all)))...)
		want := slices.Concat(copied, copied, make([]byte, 8))
		if b, e := frame.EncodeHead(c.h); !bytes.Equal(b, want) || e != api.OK {
			t.Errorf("EncodeHead(%v) is %x, %v, not %x", c.h, b, e, want)
		}
		wantHead(t, "its bytes", want, c.h)
	}
}

// P5.2, P5.4: a head's bytes, and that they are the head's.
func TestEncodeHead(t *testing.T) {
	for _, h := range heads() {
		if !mayHead(h) {
			t.Fatalf("%v may not be", h)
		}
		b, e := frame.EncodeHead(h)
		if len(b) != 64 || !bytes.Equal(b, laidHead(h)) || e != api.OK {
			t.Errorf("EncodeHead(%v) is %x, %v, not %x", h, b, e, laidHead(h))
		}
		wantHead(t, "Decode of Encode", b, h)
	}
}

// P5.2, P5.4: all sizes and counts.
func TestAllHeads(t *testing.T) {
	for n := range 2001 {
		for _, h := range []api.Head{{Size: n}, {Count: n}, {Serial: uint64(n), Epoch: 1 << n, Size: n, Count: 2000 - n}} {
			b, e := frame.EncodeHead(h)
			if !bytes.Equal(b, laidHead(h)) || e != api.OK {
				t.Errorf("EncodeHead(%v) is %x, %v", h, b, e)
			}
			wantHead(t, "Decode of Encode", b, h)
		}
	}
}

// P5.2: heads that may not be have no bytes.
func TestNoHeads(t *testing.T) {
	for _, h := range noHeads() {
		if mayHead(h) {
			t.Fatalf("%v may be", h)
		}
		if b, e := frame.EncodeHead(h); b != nil || e != api.ErrArg {
			t.Errorf("EncodeHead(%v) is %x, %v", h, b, e)
		}
	}
}

// P5.2: bytes that are laid right, with the right sum, but have a size or a count that may not be.
func TestBytesOfNoHeads(t *testing.T) {
	for _, n := range []uint32{2001, 2002, 4000, 0x07d1, 0x0107d0, 1 << 16, 1 << 31, 1<<31 + 1, math.MaxInt32, math.MaxUint32, math.MaxUint32 - 1, math.MaxUint32 - 2000} {
		wantNoHead(t, "Size", layHead(1, 2, n, 3))
		wantNoHead(t, "Count", layHead(1, 2, 3, n))
		wantNoHead(t, "both", layHead(1, 2, n, n))
	}
	wantHead(t, "2000", layHead(1, 2, 2000, 2000), api.Head{Serial: 1, Epoch: 2, Size: 2000, Count: 2000})
}

// P5.2: bytes that are not a sector's, also with room behind them that would make them one's.
func TestHeadOfOtherLengths(t *testing.T) {
	b := slices.Concat(laidHead(api.Head{Serial: 1, Epoch: 2, Size: 3, Count: 4}), make([]byte, 600))
	wantHead(t, "64 bytes", b[:64], api.Head{Serial: 1, Epoch: 2, Size: 3, Count: 4})
	for many := range len(b) + 1 {
		if many != 64 {
			wantNoHead(t, fmt.Sprintf("%d bytes", many), b[:many])
		}
	}
	wantNoHead(t, "nil", nil)
	wantNoHead(t, "twice", slices.Concat(b[:64], b[:64]))
	wantNoHead(t, "a frame's", laidFrame(frames()[0]))
	wantNoHead(t, "without its first byte", b[1:65])
}

// P5.2: bytes of a sector that are none's.
func TestHeadOfOtherBytes(t *testing.T) {
	for _, c := range []byte{0, 1, 0x55, 0xaa, 0xff} {
		wantNoHead(t, "one byte", bytes.Repeat([]byte{c}, 64))
	}
	wantNoHead(t, "a frame's first sector", laidFrame(frames()[0])[:64])
	h := laidHead(api.Head{Serial: 1, Epoch: 2, Size: 3, Count: 4})
	once := slices.Concat(h[:28], make([]byte, 36))
	wantNoHead(t, "one copy", once)
	wantNoHead(t, "the second copy", slices.Concat(make([]byte, 28), h[28:]))
	wantNoHead(t, "without sums", slices.Concat(h[:24], make([]byte, 4), h[:24], make([]byte, 12)))
	wantNoHead(t, "the sum of all", withSums(h, octet.Sum(h[:56])))
	wantNoHead(t, "the sum of the second one", withSums(h, octet.Sum(h[:24], h[:24])))
	wantNoHead(t, "the sum turned over", withSums(h, ^octet.Sum(h[:24])))
	wantHead(t, "the sum", withSums(h, octet.Sum(h[:24])), api.Head{Serial: 1, Epoch: 2, Size: 3, Count: 4})
	wantNoHead(t, "three copies", slices.Concat(h[:28], h[:28], h[:8]))
	other := laidHead(api.Head{Serial: 2, Epoch: 2, Size: 3, Count: 4})
	wantNoHead(t, "another second copy", slices.Concat(h[:28], other[28:]))
	wantNoHead(t, "another first copy", slices.Concat(other[:28], h[28:]))
}

// withSums is a head's bytes with another sum in both places.
func withSums(h []byte, sum uint32) []byte {
	b := slices.Concat(h[:24], octet.Four(sum))
	return slices.Concat(b, b, make([]byte, 8))
}

// P5.2, P5.4: each bit of each byte turned over; and each byte in each other way.
func TestTurnedHeads(t *testing.T) {
	for i, h := range heads() {
		b := laidHead(h)
		for at := range b {
			for turn := 1; turn < 256; turn++ {
				if i%8 != 0 && turn&(turn-1) != 0 {
					continue
				}
				b[at] ^= byte(turn)
				wantNoHead(t, fmt.Sprintf("byte %d turned by %x", at, turn), b)
				b[at] ^= byte(turn)
			}
		}
		wantHead(t, "turned back", b, h)
	}
}

// P5.2: one bit turned over in both copies, whose sum is as it was.
func TestTurnedTwice(t *testing.T) {
	for _, h := range heads() {
		b := laidHead(h)
		for at := range 28 {
			for bit := range 8 {
				b[at] ^= 1 << bit
				b[at+28] ^= 1 << bit
				wantNoHead(t, fmt.Sprintf("bit %d of byte %d, in both copies", bit, at), b)
				b[at] ^= 1 << bit
				b[at+28] ^= 1 << bit
			}
		}
	}
}

// P5.4: the first bytes of one head, and the others of another one, at each place.
func TestTornHeads(t *testing.T) {
	l := append(heads(), api.Head{Serial: 1, Epoch: 1}, api.Head{Serial: 2, Epoch: 1, Size: 5, Count: 3}, api.Head{Serial: 3, Epoch: 2, Size: 5})
	wantTorn(t, l, laidHead, wantHead, wantNoHead)
}

// P5.2: what is handed in is not changed, and each answer is new.
func TestHeadsApart(t *testing.T) {
	h := api.Head{Serial: 1, Epoch: 2, Size: 3, Count: 4}
	b, same := roomy(laidHead(h))
	wantHead(t, "with room", b, h)
	wantNoHead(t, "with room", b[:63])
	if !same() {
		t.Errorf("DecodeHead changed its bytes")
	}
	one, _ := frame.EncodeHead(h)
	other, _ := frame.EncodeHead(h)
	clear(one)
	_ = append(one, 1, 2, 3)
	if again, _ := frame.EncodeHead(h); !bytes.Equal(other, laidHead(h)) || !bytes.Equal(again, laidHead(h)) {
		t.Errorf("two answers share their bytes")
	}
}
