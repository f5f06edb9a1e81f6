package frame_test

import (
	"bytes"
	"iter"
	"reflect"
	"testing"

	"loupe/api"
	"loupe/frame"
)

// cut is one that Cut tells.
type cut struct {
	at int
	b  string
}

// counted is so many bytes, those of each sector unlike those of the others.
func counted(many int) []byte {
	b := make([]byte, many)
	for i := range b {
		b[i] = byte(i + i/64*3 + 1)
	}
	return b
}

// pieces is what Cut goes over, in another way.
func pieces(b []byte) []cut {
	var l []cut
	for i, c := range b {
		if i%64 == 0 {
			l = append(l, cut{i / 64, ""})
		}
		l[i/64].b += string([]byte{c})
	}
	return l
}

// first tells at most so many of what an iterator goes over.
func first(many int, all iter.Seq2[int, []byte]) []cut {
	var l []cut
	for at, b := range all {
		if len(l) == many {
			break
		}
		l = append(l, cut{at, string(b)})
	}
	return l
}

// wantCut holds what is gone over against what is wanted.
func wantCut(t *testing.T, name string, got, want []cut) {
	t.Helper()
	if len(got)+len(want) > 0 && !reflect.DeepEqual(got, want) {
		t.Errorf("%s: %x, not %x", name, got, want)
	}
}

// P5.3: pieces that the chapter's words come to.
func TestCutOfPieces(t *testing.T) {
	b := counted(576)
	all := func(l ...string) []cut {
		var c []cut
		for i, s := range l {
			c = append(c, cut{i, s})
		}
		return c
	}
	at := func(from, end int) string { return string(b[from:end]) }
	wantCut(t, "nil", first(9, frame.Cut(nil)), nil)
	wantCut(t, "none", first(9, frame.Cut([]byte{})), nil)
	wantCut(t, "1", first(9, frame.Cut(b[:1])), all(at(0, 1)))
	wantCut(t, "63", first(9, frame.Cut(b[:63])), all(at(0, 63)))
	wantCut(t, "64", first(9, frame.Cut(b[:64])), all(at(0, 64)))
	wantCut(t, "65", first(9, frame.Cut(b[:65])), all(at(0, 64), at(64, 65)))
	wantCut(t, "128", first(9, frame.Cut(b[:128])), all(at(0, 64), at(64, 128)))
	wantCut(t, "a page", first(9, frame.Cut(b[:512])), all(at(0, 64), at(64, 128), at(128, 192), at(192, 256), at(256, 320), at(320, 384), at(384, 448), at(448, 512)))
}

// P5.3: bytes of any length.
func TestCut(t *testing.T) {
	for many := range 1300 {
		b := counted(many)
		want := pieces(b)
		if len(want) != (many+63)/64 {
			t.Fatalf("%d bytes are %d sectors", many, len(want))
		}
		wantCut(t, "all", first(many+1, frame.Cut(b)), want)
	}
	b := counted(1 << 20)
	next := 0
	for at, s := range frame.Cut(b) {
		if at != next || !bytes.Equal(s, b[64*at:64*at+64]) {
			t.Fatalf("sector %d is told as %d, %x", next, at, s)
		}
		next++
	}
	if next != 1<<14 {
		t.Errorf("%d sectors", next)
	}
}

// P5.3: a frame's bytes, sector by sector, are its bytes.
func TestCutOfFrame(t *testing.T) {
	b, e := frame.Encode(api.Frame{Epoch: 1, Bytes: page(3)})
	var joined []byte
	many := 0
	for _, s := range frame.Cut(b) {
		joined = append(joined, s...)
		many++
	}
	if e != api.OK || many != 9 || !bytes.Equal(joined, b) {
		t.Errorf("%d sectors of a frame: %x, not %x", many, joined, b)
	}
}

// P5.3: left early, gone over again, one inside the other.
func TestCutAgain(t *testing.T) {
	for _, many := range []int{0, 1, 64, 65, 512, 576, 600} {
		b := counted(many)
		want := pieces(b)
		all := frame.Cut(b)
		for some := range len(want) + 2 {
			wantCut(t, "left early", first(some, all), want[:min(some, len(want))])
		}
		calls := 0
		all(func(int, []byte) bool { calls++; return false })
		if calls != min(1, many) {
			t.Errorf("left at once, it told %d", calls)
		}
		var outer []cut
		for at, s := range all {
			outer = append(outer, cut{at, string(s)})
			wantCut(t, "one inside the other", first(many, all), want)
		}
		wantCut(t, "gone over again", outer, want)
	}
}

// P5.3: what is gone over is as it was when it was asked for.
func TestCutAsItWas(t *testing.T) {
	b := counted(150)
	want := pieces(b)
	all := frame.Cut(b)
	clear(b)
	wantCut(t, "changed behind the asking", first(9, all), want)
	b = counted(150)
	var got []cut
	for at, s := range frame.Cut(b) {
		got = append(got, cut{at, string(s)})
		clear(b)
	}
	wantCut(t, "changed under way", got, want)
}

// P5.3: what is handed in is not changed, and each sector is new memory, without another one's behind it.
func TestCutApart(t *testing.T) {
	b, same := roomy(counted(150))
	want := pieces(b)
	all := frame.Cut(b)
	for range 2 {
		var got []cut
		var kept [][]byte
		for at, s := range all {
			got = append(got, cut{at, string(s)})
			_ = append(s, counted(100)...)
			clear(s[:cap(s)])
			kept = append(kept, s)
		}
		wantCut(t, "changed as it was told", got, want)
		for _, s := range kept {
			if !bytes.Equal(s, make([]byte, len(s))) {
				t.Errorf("what was told became %x", s)
			}
		}
	}
	if !same() {
		t.Errorf("Cut changed its bytes")
	}
	var kept [][]byte
	for _, s := range all {
		kept = append(kept, s)
	}
	for _, s := range all {
		clear(s)
	}
	for at, s := range kept {
		if string(s) != want[at].b {
			t.Errorf("two goings share sector %d", at)
		}
	}
}
