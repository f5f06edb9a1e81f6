package frame_test

import (
	"bytes"
	"encoding/binary"
	"fmt"
	"hash/crc32"
	"math"
	"slices"
	"testing"

	"loupe/api"
	"loupe/frame"
)

// A head's and a frame's bytes in another way: laid by the library, field by field.

// mayHead tells whether a head may be.
func mayHead(h api.Head) bool {
	return h.Size >= 0 && h.Size <= 2000 && h.Count >= 0 && h.Count <= 2000
}

// mayFrame tells whether a frame may be.
func mayFrame(f api.Frame) bool {
	small := func(n int) bool { return n >= 0 && n <= 2000 }
	return small(f.Index) && small(f.Page) && small(f.Size) && (f.Commit || f.Size == 0) && len(f.Bytes) == 512
}

// layHead tells what a head's bytes are, or would be, if it may not be.
func layHead(serial, epoch uint64, size, count uint32) []byte {
	b := binary.BigEndian.AppendUint64(nil, serial)
	b = binary.BigEndian.AppendUint64(b, epoch)
	b = binary.BigEndian.AppendUint32(b, size)
	b = binary.BigEndian.AppendUint32(b, count)
	b = binary.BigEndian.AppendUint32(b, crc32.ChecksumIEEE(b))
	return append(slices.Concat(b, b), make([]byte, 8)...)
}

func laidHead(h api.Head) []byte {
	return layHead(h.Serial, h.Epoch, uint32(h.Size), uint32(h.Count))
}

// layFrame tells what a frame's bytes are, or would be, if it may not be.
func layFrame(epoch uint64, index, page uint32, commit byte, size, link uint32, b []byte) []byte {
	l := binary.BigEndian.AppendUint64(nil, epoch)
	l = binary.BigEndian.AppendUint32(l, index)
	l = binary.BigEndian.AppendUint32(l, page)
	l = append(l, commit)
	l = binary.BigEndian.AppendUint32(l, size)
	l = binary.BigEndian.AppendUint32(l, link)
	l = binary.BigEndian.AppendUint32(l, crc32.ChecksumIEEE(slices.Concat(l, b)))
	return slices.Concat(l, make([]byte, 35), b)
}

func laidFrame(f api.Frame) []byte {
	commit := byte(0)
	if f.Commit {
		commit = 1
	}
	return layFrame(f.Epoch, uint32(f.Index), uint32(f.Page), commit, uint32(f.Size), f.Link, f.Bytes)
}

// page is a page of other bytes each, so that it tells which of them are where.
func page(first byte) []byte {
	b := make([]byte, 512)
	for i := range b {
		b[i] = first + byte(i) + byte(i/256)*3
	}
	return b
}

// numbers of 64 bits: the edges, and ones whose bytes are all unlike.
func eights() []uint64 {
	return []uint64{0, 1, 255, 1 << 8, math.MaxUint32, 1 << 32, 1<<63 - 1, 1 << 63, math.MaxUint64, 0x0102030405060708, 0xf9e8d7c6b5a49382}
}

// sizes is sizes, counts, indexes and pages that may be.
func sizes() []int { return []int{0, 1, 2, 255, 256, 257, 1000, 1999, 2000} }

// noSizes is those that may not be.
func noSizes() []int {
	return []int{-1, -2, -2000, 2001, 2002, 2000 + 1<<8, 4000, 65536, 1 << 31, 1 << 32, 1<<32 + 1, 1<<32 + 2000, -1 << 32, math.MaxInt32, math.MinInt32, math.MaxInt, math.MinInt}
}

// heads is heads that may be: each field by itself at its edges, and all of a few.
func heads() []api.Head {
	var l []api.Head
	for _, n := range eights() {
		l = append(l, api.Head{Serial: n}, api.Head{Epoch: n}, api.Head{Serial: n, Epoch: ^n, Size: 7, Count: 9})
	}
	for _, n := range sizes() {
		l = append(l, api.Head{Size: n}, api.Head{Count: n}, api.Head{Serial: 3, Epoch: 4, Size: n, Count: 2000 - n})
	}
	for _, serial := range []uint64{0, math.MaxUint64} {
		for _, epoch := range []uint64{0, math.MaxUint64} {
			for _, size := range []int{0, 2000} {
				for _, count := range []int{0, 2000} {
					l = append(l, api.Head{Serial: serial, Epoch: epoch, Size: size, Count: count})
				}
			}
		}
	}
	return l
}

// noHeads is heads that may not be.
func noHeads() []api.Head {
	var l []api.Head
	for _, n := range noSizes() {
		l = append(l, api.Head{Size: n}, api.Head{Count: n}, api.Head{Size: n, Count: n}, api.Head{Serial: 1, Epoch: 2, Size: 2000, Count: n}, api.Head{Serial: 1, Epoch: 2, Size: n, Count: 2000})
	}
	return l
}

// frames is frames that may be: each field by itself at its edges, and all of a few.
func frames() []api.Frame {
	noughts, ones := make([]byte, 512), bytes.Repeat([]byte{255}, 512)
	l := []api.Frame{{Bytes: noughts}, {Bytes: ones}, {Bytes: page(5), Commit: true}}
	for _, n := range eights() {
		l = append(l, api.Frame{Epoch: n, Bytes: page(1)}, api.Frame{Link: uint32(n), Bytes: page(2)}, api.Frame{Epoch: ^n, Index: 3, Page: 4, Commit: true, Size: 5, Link: uint32(n >> 16), Bytes: page(byte(n))})
	}
	for _, n := range sizes() {
		l = append(l, api.Frame{Index: n, Bytes: page(3)}, api.Frame{Page: n, Bytes: page(4)}, api.Frame{Commit: true, Size: n, Bytes: noughts}, api.Frame{Epoch: 6, Index: n, Page: 2000 - n, Commit: true, Size: n / 2, Link: 8, Bytes: page(6)})
	}
	for _, index := range []int{0, 2000} {
		for _, page := range []int{0, 2000} {
			for _, size := range []int{-1, 0, 2000} {
				for _, link := range []uint32{0, math.MaxUint32} {
					l = append(l, api.Frame{Epoch: uint64(link), Index: index, Page: page, Commit: size >= 0, Size: max(0, size), Link: link, Bytes: ones})
				}
			}
		}
	}
	return l
}

// noFrames is frames that may not be.
func noFrames() []api.Frame {
	var l []api.Frame
	for _, n := range noSizes() {
		l = append(l, api.Frame{Index: n, Bytes: page(1)}, api.Frame{Page: n, Bytes: page(1)}, api.Frame{Size: n, Bytes: page(1)}, api.Frame{Commit: true, Size: n, Bytes: page(1)}, api.Frame{Epoch: 1, Index: n, Page: n, Commit: true, Size: n, Link: 2})
	}
	for _, n := range sizes()[1:] {
		l = append(l, api.Frame{Size: n, Bytes: page(2)})
	}
	for _, many := range []int{0, 1, 64, 448, 510, 511, 513, 514, 576, 768, 1024, 512 + 1<<16} {
		l = append(l, api.Frame{Epoch: 1, Bytes: make([]byte, many)}, api.Frame{Commit: true, Size: 2000, Bytes: page(3)[:min(many, 511)]})
	}
	return append(l, api.Frame{}, api.Frame{Commit: true}, api.Frame{Index: 2001}, api.Frame{Size: 1})
}

// sameFrame tells whether two are, their pages byte by byte.
func sameFrame(a, b api.Frame) bool {
	return a.Epoch == b.Epoch && a.Index == b.Index && a.Page == b.Page && a.Commit == b.Commit && a.Size == b.Size && a.Link == b.Link && bytes.Equal(a.Bytes, b.Bytes)
}

// none tells whether an answer is that of bytes that are no frame's.
func none(f api.Frame, e api.Errno) bool {
	return e == api.ErrFrame && sameFrame(f, api.Frame{}) && f.Bytes == nil
}

// wantNoHead holds that bytes are no head's.
func wantNoHead(t *testing.T, name string, b []byte) {
	t.Helper()
	if h, e := frame.DecodeHead(b); h != (api.Head{}) || e != api.ErrFrame {
		t.Errorf("%s: DecodeHead(%x) is %v, %v", name, b, h, e)
	}
}

// wantNoFrame holds that bytes are no frame's.
func wantNoFrame(t *testing.T, name string, b []byte) {
	t.Helper()
	if f, e := frame.Decode(b); !none(f, e) {
		t.Errorf("%s: Decode(%x) is %v, %v", name, b, f, e)
	}
}

// wantHead holds that bytes are a head's.
func wantHead(t *testing.T, name string, b []byte, h api.Head) {
	t.Helper()
	if got, e := frame.DecodeHead(b); got != h || e != api.OK {
		t.Errorf("%s: DecodeHead(%x) is %v, %v, not %v", name, b, got, e, h)
	}
}

// wantFrame holds that bytes are a frame's.
func wantFrame(t *testing.T, name string, b []byte, f api.Frame) {
	t.Helper()
	if got, e := frame.Decode(b); !sameFrame(got, f) || e != api.OK {
		t.Errorf("%s: Decode(%x) is %v, %v, not %v", name, b, got, e, f)
	}
}

// wantTorn holds that the first bytes of one thing, and the others of another one, at each place, are those of one of both, or none's.
func wantTorn[T any](t *testing.T, l []T, laid func(T) []byte, want func(*testing.T, string, []byte, T), wantNone func(*testing.T, string, []byte)) {
	t.Helper()
	for _, a := range l {
		for _, z := range l {
			first, last := laid(a), laid(z)
			for many := range len(first) + 1 {
				b := slices.Concat(first[:many], last[many:])
				switch {
				case bytes.Equal(b, first):
					want(t, "torn", b, a)
				case bytes.Equal(b, last):
					want(t, "torn", b, z)
				default:
					wantNone(t, fmt.Sprintf("%d bytes of %v, then %v", many, a, z), b)
				}
			}
		}
	}
}

// roomy is bytes with spare room behind them, which tells whether it was changed.
func roomy(b []byte) ([]byte, func() bool) {
	room := append(slices.Clone(b), "\x01some room behind them that is not theirs"...)
	was := slices.Clone(room)
	return room[:len(b)], func() bool { return bytes.Equal(room, was) }
}
