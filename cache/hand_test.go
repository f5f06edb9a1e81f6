package cache_test

import (
	"bytes"
	"fmt"
	"math"
	"testing"

	"loupe/api"
	"loupe/cache"
	"loupe/disk"
	"loupe/file"
)

// farPages is pages that the small plan has not.
func farPages() []int {
	return []int{-1, 6, -2, 7, 1999, 2000, 2001, 1 << 32, -1 << 32, 1<<61 + 1, math.MinInt, math.MaxInt}
}

// wrongBytes is bytes that are no page's.
func wrongBytes() [][]byte {
	l := [][]byte{nil, {}}
	for _, many := range []int{1, 64, 256, 511, 513, 576, 1024, 5120} {
		l = append(l, bytes.Repeat([]byte{7}, many))
	}
	return append(l, page(1)[:511], append(page(1), 0))
}

// P8.1: the example of the chapter.
func TestExample(t *testing.T) {
	r := newPair(t, api.Plan{Frames: 5, Pages: 3}, 2)
	ok(t, r.look(t, 0, 1, 0, 2))
	if r.c.Has(1) {
		t.Errorf("page 1 is at hand")
	}
	r.wantCounts(t, 1, 3)
	ok(t, r.put(t, 0, 0, 2))
	want(t, "Read(1)", r.look(t, 1), api.ErrFull)
}

// P8.1: a new cache has nothing at hand, and asks nothing of the disk, also of one that has stopped.
func TestNew(t *testing.T) {
	for _, room := range []int{2, 3, 4, 600, 1999, 2000} {
		d := filledDisk(t)
		f, e := file.Open(d, small)
		ok(t, e, d.Stop(0))
		was := d.Copy()
		c, e := cache.New(f, room)
		ok(t, e)
		if c.File() != f || !disk.Same(d, was) {
			t.Errorf("room %d: another file", room)
		}
		hits, misses := c.Counts()
		if hits != 0 || misses != 0 || len(gone(c.Dirty())) != 0 {
			t.Errorf("room %d: counts %d %d", room, hits, misses)
		}
		for at := range 6 {
			if c.Has(at) {
				t.Errorf("room %d: has page %d", room, at)
			}
		}
	}
}

// P8.1: no file, ahead of a room that may not be; such a room.
func TestNewRefused(t *testing.T) {
	d := filledDisk(t)
	f, e := file.Open(d, small)
	ok(t, e)
	refuse := func(f *file.File, room int, e api.Errno) {
		t.Helper()
		c, got := cache.New(f, room)
		want(t, fmt.Sprintf("New(%v, %d)", f != nil, room), got, e)
		if c != nil {
			t.Errorf("a cache beside an error")
		}
	}
	rooms := []int{1, 0, -1, -2, 2001, 2002, 40000, 1<<32 + 2, math.MinInt, math.MaxInt}
	for range 2 {
		for _, room := range rooms {
			refuse(f, room, api.ErrArg)
		}
		for _, room := range append(rooms, 2, 2000) {
			refuse(nil, room, api.ErrNil)
			refuse(&file.File{}, room, api.ErrNil)
		}
		ok(t, d.Stop(0))
	}
}

// P8.1: Read tells the file's bytes, wherever they are, and takes the page in.
func TestRead(t *testing.T) {
	r := filled(t, 6)
	for at := range 6 {
		r.wantRead(t, at, byte(10+at))
		r.wantCounts(t, at, at+1)
		r.wantRead(t, at, byte(10+at))
	}
	r.wantHas(t, 0, 1, 2, 3, 4, 5)
	r.wantDirty(t)
	r.wantCounts(t, 6, 6)
	r = newPair(t, small, 2)
	text, e := r.read(t, 5)
	if ok(t, e); text != string(make([]byte, 512)) {
		t.Errorf("a new file: %x", text)
	}
}

// P8.1: a hit asks nothing of the file: the disk may have stopped, and the page may have come to have other bytes.
func TestHit(t *testing.T) {
	r := filled(t, 3)
	ok(t, r.look(t, 0, 3))
	r.stop(t, 0)
	r.wantRead(t, 0, 10)
	r.wantRead(t, 3, 13)
	r.stop(t, 999)
	ok(t, r.both(t, r.c.File().Commit(5, put(0, 70), put(1, 71)), r.m.f.Commit(5, put(0, 70), put(1, 71))))
	r.wantRead(t, 0, 10)
	r.wantRead(t, 1, 71)
	r.wantCounts(t, 3, 3)
}

// P8.1: of a disk that has stopped the log's pages are read, and those at hand; what can't be read changes nothing, and is a miss.
func TestReadStopped(t *testing.T) {
	r := filled(t, 3)
	ok(t, r.look(t, 2), r.put(t, 50, 4))
	r.stop(t, 0)
	want(t, "Read(0)", r.look(t, 0), api.ErrStopped)
	r.wantHas(t, 2, 4)
	r.wantCounts(t, 0, 2)
	r.wantRead(t, 3, 13)
	want(t, "Read(1), where a page would go", r.look(t, 1), api.ErrStopped)
	r.wantHas(t, 2, 3, 4)
	r.wantRead(t, 5, 15)
	r.wantHas(t, 3, 4, 5)
	r.wantRead(t, 4, 50)
	r.wantCounts(t, 1, 5)
	r.stop(t, 1)
	r.wantRead(t, 0, 10)
}

// P8.1: a page that the plan has not, ahead of one that has no room; each is a miss, and changes nothing.
func TestReadRange(t *testing.T) {
	for _, dirty := range []int{0, 1, 2} {
		r := filled(t, 2)
		ok(t, r.look(t, 4, 3), r.put(t, 60, []int{3, 4}[:dirty]...))
		for turn := range 2 {
			for i, at := range farPages() {
				want(t, "Read", r.look(t, at), api.ErrRange)
				r.wantCounts(t, 0, 2+i+1+turn*len(farPages()))
			}
			r.stop(t, 0)
		}
		r.wantHas(t, 3, 4)
		ok(t, r.look(t, 3, 4))
	}
}

// P8.1: no clean page: a page that is not at hand is ErrFull, and a miss, and nothing changes; one at hand is a hit. What can't be read is asked ahead of room.
func TestReadFull(t *testing.T) {
	for room := 2; room < 6; room++ {
		r := filled(t, room)
		for at := range room {
			ok(t, r.put(t, byte(50+at), at))
		}
		want(t, "Read(5)", r.look(t, 5), api.ErrFull)
		r.wantCounts(t, 0, 1)
		r.wantRead(t, 0, 50)
		want(t, "Read(-1)", r.look(t, -1), api.ErrRange)
		r.stop(t, 0)
		want(t, "Read(5), logged", r.look(t, 5), api.ErrFull)
		r.wantRead(t, 1, 51)
		r.wantCounts(t, 2, 3)
		if room < 3 {
			want(t, "Read(2), stopped", r.look(t, 2), api.ErrStopped)
		}
		for at := range room {
			r.wantRead(t, at, byte(50+at))
		}
	}
}

// P8.1: the clean page that was used longest ago goes, by Reads and by Writes, hits and misses.
func TestOldest(t *testing.T) {
	r := filled(t, 3)
	ok(t, r.look(t, 0, 1, 2, 3))
	r.wantHas(t, 1, 2, 3)
	ok(t, r.look(t, 1, 4))
	r.wantHas(t, 1, 3, 4)
	ok(t, r.look(t, 3, 3, 1, 5))
	r.wantHas(t, 1, 3, 5)
	ok(t, r.put(t, 50, 3), r.look(t, 0))
	r.wantHas(t, 0, 3, 5)
	ok(t, r.look(t, 2))
	r.wantHas(t, 0, 2, 3)
	ok(t, r.put(t, 51, 1))
	r.wantHas(t, 1, 2, 3)
	ok(t, r.look(t, 4), r.look(t, 5))
	r.wantHas(t, 1, 3, 5)
	r.wantRead(t, 3, 50)
	r.wantRead(t, 1, 51)
}

// P8.1: a page that a Write used, and that is clean behind a commit, stands where that Write put it.
func TestOldestCommitted(t *testing.T) {
	r := filled(t, 3)
	ok(t, r.put(t, 50, 2), r.look(t, 0), r.put(t, 51, 1), r.commit(t, 5), r.look(t, 3))
	r.wantHas(t, 0, 1, 3)
	ok(t, r.look(t, 4))
	r.wantHas(t, 1, 3, 4)
	ok(t, r.look(t, 5))
	r.wantHas(t, 3, 4, 5)
	r.wantRead(t, 2, 50)
	r.wantRead(t, 1, 51)
}

// P8.1: what is refused, and what only asks, uses no page.
func TestNotUsed(t *testing.T) {
	for name, do := range map[string]func(r *pair){
		"Has":             func(r *pair) { r.c.Has(0) },
		"Counts, File":    func(r *pair) { r.c.Counts(); r.c.File() },
		"Dirty":           func(r *pair) { gone(r.c.Dirty()) },
		"wrong bytes":     func(r *pair) { want(t, "Write", r.write(t, 0, page(1)[:511]), api.ErrArg) },
		"far":             func(r *pair) { want(t, "Read", r.look(t, 6), api.ErrRange) },
		"stopped":         func(r *pair) { r.stop(t, 0); want(t, "Read", r.look(t, 2), api.ErrStopped); r.stop(t, 99) },
		"the file's read": func(r *pair) { r.c.File().Read(0) },
	} {
		r := filled(t, 2)
		ok(t, r.look(t, 0, 1))
		do(r)
		ok(t, r.look(t, 5))
		if r.c.Has(0) || !r.c.Has(1) {
			t.Errorf("%s: uses page 0", name)
		}
	}
}

// P8.1: Write takes a page in without reading, also of a disk that has stopped, and counts nothing.
func TestWrite(t *testing.T) {
	r := filled(t, 3)
	r.stop(t, 0)
	ok(t, r.put(t, 50, 0), r.put(t, 51, 3), r.put(t, 52, 1))
	r.wantDirty(t, put(0, 50), put(1, 52), put(3, 51))
	r.wantRead(t, 0, 50)
	r.wantRead(t, 3, 51)
	ok(t, r.put(t, 53, 0), r.put(t, 54, 0))
	r.wantRead(t, 0, 54)
	r.wantDirty(t, put(0, 54), put(1, 52), put(3, 51))
	r.wantCounts(t, 3, 0)
	for at := range 6 {
		if b, e := r.c.File().Read(at); e == api.OK && !bytes.Equal(b, page(byte(10+at))) {
			t.Errorf("page %d came to the file", at)
		}
	}
}

// P8.1: a page that is at hand, clean, is dirty once it is written, also with the bytes that it has; others stay.
func TestWriteAtHand(t *testing.T) {
	r := filled(t, 3)
	ok(t, r.look(t, 0, 1, 2), r.put(t, 10, 0), r.put(t, 50, 2))
	r.wantHas(t, 0, 1, 2)
	r.wantDirty(t, put(0, 10), put(2, 50))
	r.wantRead(t, 0, 10)
	r.wantRead(t, 1, 11)
	r.wantRead(t, 2, 50)
	r.wantCounts(t, 3, 3)
}

// P8.1: a Write lets the clean page go that was used longest ago; none goes for a page at hand.
func TestWriteOldest(t *testing.T) {
	r := filled(t, 2)
	ok(t, r.look(t, 0, 1), r.put(t, 50, 1), r.put(t, 51, 1))
	r.wantHas(t, 0, 1)
	ok(t, r.put(t, 52, 2))
	r.wantHas(t, 1, 2)
	want(t, "Write(3)", r.put(t, 53, 3), api.ErrFull)
	want(t, "Write(0)", r.put(t, 53, 0), api.ErrFull)
	r.wantDirty(t, put(1, 51), put(2, 52))
	ok(t, r.put(t, 54, 1, 2))
	r.wantDirty(t, put(1, 54), put(2, 54))
	r.wantCounts(t, 0, 2)
}

// P8.1: wrong bytes ahead of a page that the plan has not, that ahead of room; whatever is refused changes nothing.
func TestWriteRefused(t *testing.T) {
	for _, dirty := range []int{0, 1, 2} {
		r := filled(t, 2)
		ok(t, r.look(t, 0, 1), r.put(t, 60, []int{0, 1}[:dirty]...))
		for range 2 {
			for _, b := range wrongBytes() {
				for _, at := range append(farPages(), 0, 1, 2, 5) {
					want(t, "wrong bytes", r.write(t, at, b), api.ErrArg)
				}
			}
			for _, at := range farPages() {
				want(t, "far", r.put(t, 70, at), api.ErrRange)
			}
			r.stop(t, 0)
		}
		if dirty == 2 {
			want(t, "full", r.put(t, 70, 5), api.ErrFull)
		}
		r.wantHas(t, 0, 1)
		r.wantCounts(t, 0, 2)
		for at := range 2 {
			if first := byte(10 + at); at < dirty {
				r.wantRead(t, at, 60)
			} else {
				r.wantRead(t, at, first)
			}
		}
	}
}

// P8.1: the pages of a plan: of one page, of the greatest one; a room beyond all of them.
func TestPlans(t *testing.T) {
	for _, p := range []api.Plan{{Frames: 1, Pages: 1}, {Frames: 9, Pages: 2}, {Frames: 2000, Pages: 2000}} {
		for _, room := range []int{2, 2000} {
			r := newPair(t, p, room)
			ok(t, r.put(t, 1, p.Pages-1))
			want(t, "Read behind the last one", r.look(t, p.Pages), api.ErrRange)
			want(t, "Write behind the last one", r.put(t, 1, p.Pages), api.ErrRange)
			want(t, "Read(-1)", r.look(t, -1), api.ErrRange)
			want(t, "Write(-1)", r.put(t, 1, -1), api.ErrRange)
			r.wantRead(t, p.Pages-1, 1)
			ok(t, r.commit(t, p.Pages), r.look(t, 0))
		}
	}
}

// P8.1: a room of MaxFrames takes as many pages, all of them dirty, and commits them.
func TestGreatestRoom(t *testing.T) {
	p := api.Plan{Frames: 2000, Pages: 2000}
	f, e := file.Open(newDisk(t, p), p)
	ok(t, e)
	c, e := cache.New(f, 2000)
	ok(t, e)
	for at := range 2000 {
		ok(t, c.Write(at, page(byte(at))))
	}
	for at := range 2000 {
		b, e := c.Read(at)
		if ok(t, e); !bytes.Equal(b, page(byte(at))) {
			t.Fatalf("page %d: %x", at, b)
		}
	}
	if hits, misses := c.Counts(); hits != 2000 || misses != 0 || len(gone(c.Dirty())) != 2000 {
		t.Errorf("counts %d %d", hits, misses)
	}
	ok(t, c.Commit(2000))
	if f.Size() != 2000 || len(gone(c.Dirty())) != 0 {
		t.Errorf("size %d", f.Size())
	}
	for at := range 2000 {
		if b, e := f.Read(at); e != api.OK || !bytes.Equal(b, page(byte(at))) || !c.Has(at) {
			t.Fatalf("page %d: %x, %v", at, b, e)
		}
	}
}

// P8.1: a room of fewer pages than the plan has: the last ones of a great many are at hand.
func TestGreatRoom(t *testing.T) {
	p := api.Plan{Frames: 3, Pages: 2000}
	r := newPair(t, p, 1999)
	for at := range 2000 {
		_, e := r.c.Read(at)
		_, wanted := r.m.read(at)
		ok(t, e, wanted)
	}
	r.hold(t)
	ok(t, r.look(t, 1, 0))
	if r.c.Has(2) || !r.c.Has(3) || !r.c.Has(1) {
		t.Errorf("another page went")
	}
}

// P8.1: each answer of Read is new memory, of a miss and of a hit, of a clean page and of a dirty one.
func TestReadApart(t *testing.T) {
	for _, room := range []int{2, 6} {
		r := filled(t, room)
		ok(t, r.put(t, 50, 3))
		for turn := range 3 {
			for at := range 6 {
				first := byte(10 + at)
				if at == 3 {
					first = 50
				}
				one, e := r.c.Read(at)
				other, otherE := r.c.Read(at)
				ok(t, e, otherE)
				clear(one)
				_ = append(one, bytes.Repeat([]byte{5}, 600)...)
				if !bytes.Equal(other, page(first)) {
					t.Errorf("turn %d: page %d shares its bytes", turn, at)
				}
			}
		}
		if !bytes.Equal(gone(r.c.Dirty())[0].bytes(), page(50)) {
			t.Errorf("a dirty page was changed")
		}
	}
}

// P8.1: what is handed in to Write is not changed, nor the room behind it, and not kept.
func TestWriteApart(t *testing.T) {
	for _, ahead := range []string{"nothing", "clean", "dirty"} {
		r := filled(t, 2)
		if ahead != "nothing" {
			ok(t, r.look(t, 3))
		}
		if ahead == "dirty" {
			ok(t, r.put(t, 60, 3))
		}
		long := append(page(50), bytes.Repeat([]byte{77}, 300)...)
		b := long[:512]
		ok(t, r.write(t, 3, b))
		if !bytes.Equal(b, page(50)) || !bytes.Equal(long[512:], bytes.Repeat([]byte{77}, 300)) {
			t.Errorf("%s: what was handed in was changed", ahead)
		}
		clear(long)
		r.wantRead(t, 3, 50)
		r.wantDirty(t, put(3, 50))
		ok(t, r.commit(t, 5))
		if b, e := r.c.File().Read(3); e != api.OK || !bytes.Equal(b, page(50)) {
			t.Errorf("%s: %x, %v was committed", ahead, b, e)
		}
		if !bytes.Equal(long, make([]byte, 812)) {
			t.Errorf("%s: what was handed in was changed later", ahead)
		}
	}
}

// bytes is what was gone over.
func (s shown) bytes() []byte { return []byte(s.text) }

// nones is caches that are none.
func nones() []*cache.Cache { return []*cache.Cache{nil, {}} }

// P8.1, P8.2, P8.3: no cache: ErrNil ahead of all else, zero answers, and an iterator that tells nothing.
func TestNone(t *testing.T) {
	refused, e := cache.New(nil, 2)
	want(t, "New", e, api.ErrNil)
	for _, c := range append(nones(), refused) {
		for _, at := range append(farPages(), 0, 1) {
			b, e := c.Read(at)
			want(t, "Read", e, api.ErrNil)
			want(t, "Write", c.Write(at, page(1)), api.ErrNil)
			want(t, "Write nothing", c.Write(at, nil), api.ErrNil)
			want(t, "Commit", c.Commit(at), api.ErrNil)
			if b != nil || c.Has(at) {
				t.Errorf("none has page %d", at)
			}
		}
		want(t, "Drop", c.Drop(), api.ErrNil)
		hits, misses := c.Counts()
		all := c.Dirty()
		if hits != 0 || misses != 0 || c.File() != nil || all == nil {
			t.Errorf("none tells %d %d %v", hits, misses, c.File())
		}
		if l := gone(all); len(l) != 0 {
			t.Errorf("none goes over %v", l)
		}
	}
}
