package pager_test

import (
	"bytes"
	"fmt"
	"testing"

	"loupe/api"
	"loupe/disk"
	"loupe/file"
	"loupe/pager"
)

// P9.3: the free page that was freed last is made first; then come those behind the last one; each holds noughts.
func TestMake(t *testing.T) {
	r := newPair(t, broad, 9)
	ok(t, r.begin(t))
	r.makes(t, 1, 2, 3, 4, 5)
	ok(t, r.put(t, 50, 1, 2, 3, 4, 5), r.free(t, 3, 1, 5))
	r.wantTells(t, 6, 3, true)
	r.wantBytes(t, 3, freed(0))
	r.wantBytes(t, 1, freed(3))
	r.wantBytes(t, 5, freed(1))
	r.makes(t, 5)
	r.wantTells(t, 6, 2, true)
	r.wantBytes(t, 5, noughts())
	ok(t, r.free(t, 2))
	r.wantBytes(t, 2, freed(1))
	r.makes(t, 2, 1, 3, 6, 7)
	r.wantTells(t, 8, 0, true)
	for _, at := range []int{1, 2, 3, 5, 6, 7} {
		r.wantBytes(t, at, noughts())
	}
	r.wantRead(t, 4, 50)
}

// P9.3: the same across transactions, and when the disk is opened again in each of them: the order is the file's.
func TestMakeAgain(t *testing.T) {
	r := filled(t, broad, 3)
	for _, at := range []int{2, 4, 5, 6} {
		ok(t, r.begin(t))
		r.makes(t, at)
		ok(t, r.put(t, 77, at), r.commit(t))
		r = r.again(t, 2)
	}
	for i, at := range []int{3, 6, 1} {
		ok(t, r.begin(t), r.free(t, at), r.commit(t))
		r = r.again(t, 2)
		r.wantTells(t, 7, i+1, false)
	}
	for _, at := range []int{1, 6, 3, 7} {
		ok(t, r.begin(t))
		r.makes(t, at)
		ok(t, r.commit(t))
		r = r.again(t, 2)
		r.wantBytes(t, at, noughts())
	}
}

// P9.3: no page more: ErrFull, whatever the room, also on a disk that has stopped; nothing changes, and a page that is freed may be made.
func TestMakeFull(t *testing.T) {
	for _, p := range []api.Plan{{Frames: 8, Pages: 1}, {Frames: 8, Pages: 2}, small, broad} {
		for _, room := range []int{9, 2000} {
			r := newPair(t, p, room)
			ok(t, r.begin(t))
			for at := 1; at < p.Pages; at++ {
				r.makes(t, at)
			}
			r.unchanged(t, func() {
				for range 3 {
					at, e := r.makePage(t)
					if want(t, "Make", e, api.ErrFull); at != 0 {
						t.Errorf("page %d beside an error", at)
					}
					r.stop(t, 0)
				}
			})
			r.wantTells(t, p.Pages, 0, true)
			for at := 1; at < p.Pages; at++ {
				r.wantBytes(t, at, noughts())
			}
		}
	}
}

// P9.3: all pages but the first are made; one that is freed is made again, and no other.
func TestMakeFreedOfFull(t *testing.T) {
	r := newPair(t, broad, 9)
	ok(t, r.begin(t))
	r.makes(t, 1, 2, 3, 4, 5, 6, 7)
	for at := 1; at < 8; at++ {
		ok(t, r.put(t, 60, at), r.free(t, at))
		r.wantTells(t, 8, 1, true)
		r.makes(t, at)
		r.wantBytes(t, at, noughts())
		_, e := r.makePage(t)
		want(t, "Make", e, api.ErrFull)
	}
	ok(t, r.commit(t))
	r.again(t, 2)
}

// P9.3: no room for one page more: ErrFull of Make, Write, Free and Read, and nothing changes; pages at hand go on.
func TestNoRoom(t *testing.T) {
	for room := 2; room < 5; room++ {
		order := []int{4, 3, 1, 5}
		r := filled(t, broad, 8)
		ok(t, r.begin(t))
		r.makes(t, 2, 4, 5, 6)
		ok(t, r.free(t, 6), r.commit(t), r.checkIn(t))
		r = r.again(t, room)
		ok(t, r.begin(t), r.put(t, 55, order[:room]...))
		r.marksFrom(t, 0)
		r.unchanged(t, func() {
			for _, at := range append(order[room:], 2, 6) {
				want(t, fmt.Sprint("Read ", at), r.look(t, at), api.ErrFull)
				want(t, fmt.Sprint("Write ", at), r.put(t, 56, at), api.ErrFull)
				want(t, fmt.Sprint("Free ", at), r.free(t, at), api.ErrFull)
			}
			at, e := r.makePage(t)
			if want(t, "Make", e, api.ErrFull); at != 0 {
				t.Errorf("page %d beside an error", at)
			}
		})
		r.wantTells(t, 7, 1, true)
		for _, at := range order[:room] {
			r.wantRead(t, at, 55)
			ok(t, r.put(t, 57, at), r.free(t, at))
			r.makes(t, at)
		}
		ok(t, r.back(t, 0), r.rollback(t))
		r.pages(t)
	}
}

// P9.3: no room for the page behind the last one: ErrFull, and nothing changes; a page at hand may still be freed, and made.
func TestMakeNoRoom(t *testing.T) {
	r := filled(t, broad, 2)
	ok(t, r.begin(t))
	r.makes(t, 2, 4)
	r.unchanged(t, func() {
		at, e := r.makePage(t)
		if want(t, "Make behind the last one", e, api.ErrFull); at != 0 {
			t.Errorf("page %d beside an error", at)
		}
	})
	r.wantTells(t, 5, 0, true)
	ok(t, r.free(t, 2))
	r.makes(t, 2)
}

// P9.3: a disk that has stopped: Make of a free page that is not at hand, and Read of one, are ErrStopped, and nothing changes; all else goes on.
func TestPagesStopped(t *testing.T) {
	r := filled(t, broad, 8)
	r.stop(t, 0)
	ok(t, r.begin(t))
	r.unchanged(t, func() {
		at, e := r.makePage(t)
		if want(t, "Make", e, api.ErrStopped); at != 0 {
			t.Errorf("page %d beside an error", at)
		}
		want(t, "Read", r.look(t, 2), api.ErrStopped)
		r.wantTells(t, 5, 2, true)
		ok(t, r.put(t, 50, 1), r.free(t, 3), r.setRoot(t, 0, 4))
		r.makes(t, 3)
		_, e = r.makePage(t)
		want(t, "Make", e, api.ErrStopped)
		r.wantRead(t, 1, 50)
		r.marksFrom(t, 0)
		ok(t, r.put(t, 51, 2), r.back(t, 0))
		want(t, "Read", r.look(t, 2), api.ErrStopped)
	})
	want(t, "Commit", r.commit(t), api.ErrStopped)
	r.stop(t, 99)
	r.makes(t, 2, 4, 5)
	r.stop(t, 0)
	r.makes(t, 6)
	ok(t, r.rollback(t))
	r.stop(t, 99)
	r.pages(t)
}

// P9.3: pages that are not from 1 to the size, less one: ErrRange of Read, Write and Free; the size is that of the transaction.
func TestRange(t *testing.T) {
	for made := range 4 {
		r := filled(t, broad, 8)
		ok(t, r.begin(t))
		for range made {
			_, e := r.makePage(t)
			ok(t, e)
		}
		size := r.p.Size()
		for _, at := range append([]int{0, size, size + 1}, farPages()...) {
			if at > 0 && at < size {
				continue
			}
			r.unchanged(t, func() {
				want(t, fmt.Sprint("Read ", at), r.look(t, at), api.ErrRange)
				want(t, fmt.Sprint("Write ", at), r.put(t, 9, at), api.ErrRange)
				want(t, fmt.Sprint("Free ", at), r.free(t, at), api.ErrRange)
			})
		}
		ok(t, r.put(t, 9, 1, size-1), r.look(t, 1, size-1), r.free(t, 1, size-1), r.rollback(t))
		want(t, "Read", r.look(t, 5), api.ErrRange)
		want(t, "Read", r.look(t, 0), api.ErrRange)
		want(t, "Read", r.look(t, -1), api.ErrRange)
		ok(t, r.look(t, 1, 2, 3, 4))
	}
}

// P9.3: bytes that are no page's: ErrArg, ahead of a page that there is not, and of room; nothing changes.
func TestWriteWrong(t *testing.T) {
	r := filled(t, broad, 2)
	ok(t, r.begin(t), r.put(t, 50, 1, 3))
	wrong := [][]byte{nil, {}, page(1)[:511], append(page(1), 0), page(1)[:64], bytes.Repeat([]byte{1}, 1024)}
	r.unchanged(t, func() {
		for range 2 {
			for _, b := range wrong {
				for _, at := range append(farPages(), 2, 3, 4, 5) {
					want(t, fmt.Sprintf("Write(%d, %d bytes)", at, len(b)), r.write(t, at, b), api.ErrArg)
				}
			}
			want(t, "Write(5)", r.put(t, 1, 5), api.ErrRange)
			want(t, "Write(2)", r.put(t, 1, 2), api.ErrFull)
			want(t, "Free(5)", r.free(t, 5), api.ErrRange)
			want(t, "Read(5)", r.look(t, 5), api.ErrRange)
			r.stop(t, 0)
		}
	})
	r.wantRead(t, 1, 50)
	want(t, "Read(2): what can't be read is asked ahead of room", r.look(t, 2), api.ErrStopped)
	r.stop(t, 99)
	want(t, "Read(2)", r.look(t, 2), api.ErrFull)
}

// P9.3: Read without a transaction, and in one, of pages that are free, too.
func TestRead(t *testing.T) {
	for room := 2; room < 6; room++ {
		r := filled(t, small, room)
		for range 2 {
			r.wantRead(t, 1, 11)
			r.wantBytes(t, 2, freed(4))
			r.wantRead(t, 3, 13)
			r.wantBytes(t, 4, freed(0))
			r.begin(t)
		}
		ok(t, r.put(t, 60, 4), r.rollback(t))
		r.wantBytes(t, 4, freed(0))
	}
}

// P9.3: bytes that are told, and handed in, are changed afterwards: the pager's are not; the room behind them stays.
func TestApart(t *testing.T) {
	r := filled(t, broad, 4)
	ok(t, r.begin(t))
	long := append(page(80), bytes.Repeat([]byte{7}, 100)...)
	ok(t, r.write(t, 1, long[:512]))
	if !bytes.Equal(long, append(page(80), bytes.Repeat([]byte{7}, 100)...)) {
		t.Errorf("what was handed in was changed")
	}
	clear(long)
	for range 3 {
		for at, first := range map[int]byte{1: 80, 3: 13} {
			b, e := r.p.Read(at)
			other, otherE := r.p.Read(at)
			ok(t, e, otherE)
			clear(b)
			_ = append(b, bytes.Repeat([]byte{9}, 600)...)
			if !bytes.Equal(other, page(first)) {
				t.Errorf("page %d shares its bytes", at)
			}
		}
	}
	r.wantRead(t, 1, 80)
	ok(t, r.commit(t))
	r.again(t, 2).wantRead(t, 1, 80)
	if !bytes.Equal(long, make([]byte, 612)) {
		t.Errorf("what was handed in was changed later")
	}
}

// broken is a pager of a file whose free pages are laid by hand, in a transaction.
func broken(t *testing.T, size, first, many int, w ...api.PageWrite) (*pager.Pager, *file.File) {
	t.Helper()
	f := laid(t, size, append(w, at(0, zero(first, many)))...)
	p, e := pager.Open(f, 3)
	ok(t, e, p.Begin())
	return p, f
}

// wantBroken holds that no page is made, and nothing changes.
func wantBroken(t *testing.T, name string, p *pager.Pager, f *file.File) {
	t.Helper()
	size, many, was := p.Size(), p.Spare(), f.Disk().Copy()
	for range 2 {
		at, e := p.Make()
		if want(t, name, e, api.ErrBroken); at != 0 || p.Size() != size || p.Spare() != many || !p.Under() {
			t.Errorf("%s: page %d beside an error, or a change", name, at)
		}
	}
	if e := p.Commit(); e != api.OK || !disk.Same(was, f.Disk()) {
		t.Errorf("%s: a change, %v", name, e)
	}
}

// P9.3: a next free page that is not below the size: ErrBroken.
func TestMakeBeyond(t *testing.T) {
	for size := 3; size < 8; size++ {
		for _, next := range []int{size, size + 1, 255, 256, 2000, 1 << 31, 1<<32 - 1} {
			p, f := broken(t, size, 2, 2, at(2, freed(next)))
			wantBroken(t, fmt.Sprintf("size %d, next %d", size, next), p, f)
		}
		p, _ := broken(t, size, 1, 2, at(1, freed(size-1)), at(size-1, freed(0)))
		a, e := p.Make()
		b, be := p.Make()
		if ok(t, e, be); a != 1 || b != size-1 || p.Spare() != 0 {
			t.Errorf("size %d: makes %d, %d, %d are free", size, a, b, p.Spare())
		}
	}
	p, f := broken(t, 5, 2, 2, at(2, page(1)))
	wantBroken(t, "other bytes", p, f)
}

// P9.3: fewer than no free pages: ErrBroken; so it is once as many as there were are made.
func TestMakeFewer(t *testing.T) {
	p, f := broken(t, 5, 2, 0, at(2, freed(0)))
	wantBroken(t, "none", p, f)
	p, f = broken(t, 5, 2, 0, at(2, freed(9)))
	wantBroken(t, "none, and one beyond the size", p, f)
	p, f = broken(t, 6, 2, 2, at(2, freed(3)), at(3, freed(4)), at(4, freed(0)))
	a, e := p.Make()
	b, be := p.Make()
	if ok(t, e, be, p.Commit(), p.Begin()); a != 2 || b != 3 || p.Spare() != 0 {
		t.Errorf("makes %d, %d, %d are free", a, b, p.Spare())
	}
	wantBroken(t, "none any more", p, f)
	p, f = broken(t, 4, 3, 1, at(3, freed(3)))
	a, e = p.Make()
	if ok(t, e, p.Write(3, freed(3))); a != 3 {
		t.Errorf("makes %d", a)
	}
	ok(t, p.Commit(), p.Begin())
	wantBroken(t, "itself", p, f)
}

// P9.3: what can't be read is asked ahead of what is broken; where no page is free, a number of them alone is not asked for.
func TestMakeBrokenStopped(t *testing.T) {
	p, f := broken(t, 5, 2, 0, at(2, freed(9)))
	ok(t, f.Disk().Stop(0))
	_, e := p.Make()
	want(t, "stopped", e, api.ErrStopped)
	ok(t, f.Disk().Stop(99), p.Write(3, page(1)), p.Write(4, page(1)), p.Write(1, page(1)))
	_, e = p.Make()
	want(t, "full", e, api.ErrFull)
	p, _ = broken(t, 5, 0, 3)
	at, e := p.Make()
	if ok(t, e); at != 5 || p.Spare() != 3 || p.Size() != 6 {
		t.Errorf("makes %d, %d are free", at, p.Spare())
	}
}

// P9.3: a file whose size is beyond its plan, as others may lay it: the pages that the plan has not are none, free ones neither.
func TestBeyondPlan(t *testing.T) {
	narrow := api.Plan{Frames: 4, Pages: 3}
	for first, wanted := range map[int]api.Errno{0: api.ErrFull, 2: api.OK, 3: api.ErrBroken, 4: api.ErrBroken} {
		wide, e := file.Open(newDisk(t, small), small)
		ok(t, e, wide.Commit(5, at(0, zero(first, 1, 4)), at(2, freed(0))))
		d := newDisk(t, narrow)
		for n := range 2 + 9*4 {
			b, e := wide.Disk().Read(n)
			ok(t, e, d.Write(n, b))
		}
		f, e := file.Open(d, narrow)
		ok(t, e)
		p, e := pager.Open(f, 2)
		ok(t, e, p.Begin())
		made, e := p.Make()
		if want(t, fmt.Sprint("Make, first ", first), e, wanted); p.Size() != 5 || e != api.OK && made != 0 {
			t.Errorf("size %d, page %d", p.Size(), made)
		}
		_, e = p.Read(4)
		want(t, "Read", e, api.ErrRange)
		want(t, "Write", p.Write(3, page(1)), api.ErrRange)
		want(t, "Free", p.Free(4), api.ErrRange)
		if l := gone(p.Pages()); len(l) != 2 {
			t.Errorf("goes over %v", l)
		}
	}
}

// P9.3: a page that is written while it is free is what it was written; its first bytes tell the next free one then.
func TestWriteFree(t *testing.T) {
	r := filled(t, small, 5)
	ok(t, r.begin(t), r.p.Write(2, append([]byte{0, 0, 0, 3}, page(1)[4:]...)), r.p.Write(3, freed(1)))
	a, e := r.p.Make()
	b, be := r.p.Make()
	if ok(t, e, be); a != 2 || b != 3 || r.p.Spare() != 0 {
		t.Errorf("makes %d, %d, %d are free", a, b, r.p.Spare())
	}
	ok(t, r.p.Rollback(), r.p.Begin(), r.p.Write(2, page(1)))
	_, e = r.p.Make()
	want(t, "Make", e, api.ErrBroken)
}

// P9.3: a page that is freed twice holds its own number: it is made as often, and then no page is.
func TestFreeTwice(t *testing.T) {
	r := filled(t, small, 5)
	ok(t, r.begin(t), r.p.Free(3), r.p.Free(3))
	b, e := r.p.Read(3)
	if ok(t, e); !bytes.Equal(b, freed(3)) || r.p.Spare() != 4 || r.p.Size() != 5 {
		t.Errorf("page 3 is %x, %d are free", b, r.p.Spare())
	}
	for n := range 2 {
		at, e := r.p.Make()
		if ok(t, e, r.p.Write(3, freed(3))); at != 3 || r.p.Spare() != 3-n {
			t.Errorf("makes %d, %d are free", at, r.p.Spare())
		}
	}
}
