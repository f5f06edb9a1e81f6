package file_test

import (
	"bytes"
	"fmt"
	"math"
	"testing"

	"loupe/api"
	"loupe/disk"
	"loupe/file"
	"loupe/frame"
)

// wrongPlans is plans that may not be.
func wrongPlans() []api.Plan {
	return []api.Plan{
		{}, {Frames: 3}, {Pages: 4}, {Frames: -3, Pages: 4}, {Frames: 3, Pages: -4}, {Frames: 2001, Pages: 4}, {Frames: 3, Pages: 2001},
		{Frames: math.MaxInt, Pages: 4}, {Frames: 3, Pages: math.MinInt}, {Frames: 7, Pages: -1}, {Frames: 9, Pages: 1 << 61},
	}
}

// write writes bytes to a disk, sector by sector.
func write(d *disk.Disk, at int, b []byte) api.Errno {
	for n, s := range frame.Cut(b) {
		if e := d.Write(at+n, s); e != api.OK {
			return e
		}
	}
	return api.OK
}

// P7.1: a new disk is formatted.
func TestOpenNew(t *testing.T) {
	for _, p := range []api.Plan{{Frames: 1, Pages: 1}, small, {Frames: 40, Pages: 2}, {Frames: 2000, Pages: 2000}} {
		d := newDisk(t, p)
		f, e := file.Open(d, p)
		ok(t, e)
		other := newDisk(t, p)
		h, e := frame.EncodeHead(api.Head{Serial: 1, Epoch: 1})
		ok(t, e, other.Write(1, h), other.Sync())
		if !disk.Same(d, other) || f.Disk() != d {
			t.Errorf("%v: another disk", p)
		}
		if got := has(t, f); !got.same(nothing(p)) || f.Plan() != p {
			t.Errorf("%v: has %v, %v", p, got, f.Plan())
		}
	}
}

// P7.1: disks that were used: pages of the log, pages in their sectors, both; opened again and again.
func TestOpenUsed(t *testing.T) {
	r := newPair(t, small)
	ok(t, r.commit(t, 3, put(0, 1), put(2, 2)), r.checkIn(t), r.commit(t, 4, put(2, 3), put(3, 4)))
	wanted := nothing(small).with(4, put(0, 1), put(2, 3), put(3, 4))
	for range 3 {
		was := r.f.Disk().Copy()
		again, e := opened(t, r.f.Disk(), small)
		ok(t, e)
		if got := has(t, again.f); !got.same(wanted) {
			t.Errorf("opened again: has %v", got)
		}
		if !disk.Same(was, r.f.Disk()) {
			t.Errorf("opening a formatted disk changes it")
		}
		r = again
	}
	ok(t, r.commit(t, 1, put(1, 5)), r.commit(t, 2, put(0, 6)))
	r, e := opened(t, r.f.Disk(), small)
	ok(t, e)
	if got := has(t, r.f); !got.same(wanted.with(2, put(1, 5), put(0, 6))) {
		t.Errorf("opened behind: has %v", got)
	}
}

// P7.1: what is in a page's sectors is the page's, also on a disk that is no file's yet.
func TestOpenFilled(t *testing.T) {
	d := newDisk(t, small)
	wanted := nothing(small)
	for at := range 4 {
		ok(t, write(d, home(small, at), page(byte(at))))
		wanted = wanted.with(0, put(at, byte(at)))
	}
	r, e := opened(t, d, small)
	ok(t, e)
	if got := has(t, r.f); !got.same(wanted) {
		t.Errorf("filled: has %v", got)
	}
}

// P7.1: what is refused: no disk ahead of a plan that may not be, and that ahead of a disk that has stopped.
func TestOpenRefused(t *testing.T) {
	stopped := newDisk(t, small)
	ok(t, stopped.Stop(0))
	short, _ := disk.New(sectorsOf(small) - 1)
	long, _ := disk.New(sectorsOf(small) + 1)
	least, _ := disk.New(1)
	refuse := func(d *disk.Disk, p api.Plan, e api.Errno) {
		t.Helper()
		was := d.Copy()
		f, got := file.Open(d, p)
		want(t, fmt.Sprintf("Open(%d sectors, %v)", d.Len(), p), got, e)
		if f != nil {
			t.Errorf("a file beside an error")
		}
		if was != nil && !disk.Same(d, was) {
			t.Errorf("what is refused changed the disk")
		}
	}
	for _, p := range append(wrongPlans(), small) {
		refuse(nil, p, api.ErrNil)
		refuse(&disk.Disk{}, p, api.ErrNil)
	}
	for _, p := range wrongPlans() {
		refuse(newDisk(t, small), p, api.ErrArg)
		refuse(stopped, p, api.ErrArg)
		refuse(least, p, api.ErrArg)
	}
	for _, d := range []*disk.Disk{short, long, least} {
		refuse(d, small, api.ErrArg)
		ok(t, d.Stop(0))
		refuse(d, small, api.ErrArg)
	}
	refuse(newDisk(t, small), api.Plan{Frames: 4, Pages: 3}, api.ErrArg)
	refuse(stopped, small, api.ErrStopped)
}

// P7.1: a disk that stops within opening.
func TestOpenStopped(t *testing.T) {
	for after := range 5 {
		d := newDisk(t, small)
		ok(t, d.Stop(after))
		r, e := opened(t, d, small)
		if after < 3 {
			want(t, fmt.Sprintf("Stop(%d)", after), e, api.ErrStopped)
		} else {
			ok(t, e, r.f.Disk().Stop(99), r.f.Commit(1, put(0, 1)))
		}
	}
	r := newPair(t, small)
	ok(t, r.commit(t, 2, puts(small, 3)...), r.f.Disk().Stop(0))
	_, e := opened(t, r.f.Disk(), small)
	want(t, "stopped", e, api.ErrStopped)
}

// P7.1: a page that is in the log, one that is in its sectors alone, one in both with other bytes, one in none.
func TestRead(t *testing.T) {
	r := newPair(t, small)
	ok(t, r.commit(t, 1, put(0, 1), put(1, 2)), r.checkIn(t), r.commit(t, 2, put(1, 3), put(2, 4)))
	r.onDisk(t, func(d *disk.Disk) api.Errno { return write(d, home(small, 2), page(9)) })
	wantRead(t, "in its sectors alone", r.f, 0, page(1))
	wantRead(t, "in both", r.f, 1, page(3))
	wantRead(t, "in both, beyond the size", r.f, 2, page(4))
	wantRead(t, "in none", r.f, 3, make([]byte, 512))
	r.onDisk(t, func(d *disk.Disk) api.Errno { return write(d, home(small, 3), page(8)[:128]) })
	wantRead(t, "two sectors of it", r.f, 3, append(page(8)[:128], make([]byte, 384)...))
}

// P7.1: each of a page's sectors comes to its own place.
func TestReadSectors(t *testing.T) {
	r := newPair(t, small)
	for at := range 4 {
		for n := range 8 {
			b := bytes.Repeat([]byte{byte(10*at + n + 1)}, 64)
			r.onDisk(t, func(d *disk.Disk) api.Errno { return d.Write(2+27+8*at+n, b) })
		}
	}
	for at := range 4 {
		var wanted []byte
		for n := range 8 {
			wanted = append(wanted, bytes.Repeat([]byte{byte(10*at + n + 1)}, 64)...)
		}
		wantRead(t, "sectors", r.f, at, wanted)
	}
}

// farPages is pages that the small plan has not.
func farPages() []int {
	return []int{-1, 4, -2, 5, 1999, 2000, 2001, 1 << 32, -1 << 32, 1<<61 + 1, math.MinInt, math.MaxInt}
}

// P7.1: pages that the plan has not, also with a disk that has stopped.
func TestReadRange(t *testing.T) {
	r := newPair(t, small)
	ok(t, r.commit(t, 4, put(3, 1)))
	for range 2 {
		for _, at := range farPages() {
			b, e := r.f.Read(at)
			want(t, fmt.Sprintf("Read(%d)", at), e, api.ErrRange)
			if b != nil {
				t.Errorf("bytes beside an error")
			}
		}
		r.stop(t, 0)
	}
}

// P7.1: of a disk that has stopped the log's pages are read alone.
func TestReadStopped(t *testing.T) {
	r := newPair(t, small)
	ok(t, r.commit(t, 4, put(0, 1), put(2, 2)), r.checkIn(t), r.commit(t, 4, put(2, 3), put(3, 4)))
	r.stop(t, 0)
	wantRead(t, "logged", r.f, 2, page(3))
	wantRead(t, "logged", r.f, 3, page(4))
	for _, at := range []int{0, 1} {
		b, e := r.f.Read(at)
		want(t, fmt.Sprintf("Read(%d)", at), e, api.ErrStopped)
		if b != nil {
			t.Errorf("bytes beside an error")
		}
	}
	r.stop(t, 1)
	wantRead(t, "not yet", r.f, 0, page(1))
}

// forged is a disk with one frame that others laid.
func forged(t *testing.T, f api.Frame) *disk.Disk {
	t.Helper()
	d := newDisk(t, small)
	h, e := frame.EncodeHead(api.Head{Serial: 5, Epoch: f.Epoch, Size: 1, Count: 1})
	b, other := frame.Encode(f)
	ok(t, e, other, write(d, 1, h), write(d, 2, b), d.Sync())
	return d
}

// P7.1, P7.2, P7.3: a frame that counts may be of a page that the plan has not, and of such a size: it is no page of the file.
func TestForged(t *testing.T) {
	for _, at := range []int{4, 5, 2000} {
		r, e := opened(t, forged(t, api.Frame{Epoch: 3, Page: at, Commit: true, Size: 2000, Bytes: page(7)}), small)
		ok(t, e)
		_, e = r.f.Read(at)
		want(t, "Read", e, api.ErrRange)
		if got := gone(r.f.All()); len(got) != 4 || r.f.Size() != 2000 {
			t.Errorf("size %d, goes over %v", r.f.Size(), got)
		}
		for after := range 3 {
			r.stop(t, after)
			want(t, "CheckIn", r.checkIn(t), api.ErrStopped)
		}
		r.stop(t, 3)
		ok(t, r.checkIn(t))
		ok(t, r.f.Disk().Crash(0))
		if got := has(t, r.f); !got.same(held{2000, nothing(small).pages}) {
			t.Errorf("checked in: has %v", got)
		}
	}
}

// P7.1, P7.2, P7.3: no file.
func TestNil(t *testing.T) {
	for _, f := range []*file.File{nil, {}} {
		for _, at := range append(farPages(), 0) {
			b, e := f.Read(at)
			want(t, "Read", e, api.ErrNil)
			if b != nil {
				t.Errorf("bytes of no file")
			}
		}
		want(t, "Commit", f.Commit(0, put(0, 1)), api.ErrNil)
		want(t, "Commit, wrong", f.Commit(-1), api.ErrNil)
		want(t, "Commit, too many", f.Commit(1, puts(small, 2001)...), api.ErrNil)
		want(t, "CheckIn", f.CheckIn(), api.ErrNil)
		if f.Size() != 0 || f.Plan() != (api.Plan{}) || f.Disk() != nil {
			t.Errorf("tells %d, %v, %v of no file", f.Size(), f.Plan(), f.Disk())
		}
		if all := f.All(); all == nil || len(gone(all)) != 0 {
			t.Errorf("goes over pages of no file")
		}
	}
}

// P7.1, P7.2: a disk that is made a zero one is none any more.
func TestDiskGone(t *testing.T) {
	r := newPair(t, small)
	ok(t, r.commit(t, 2, put(0, 1)))
	*r.f.Disk() = disk.Disk{}
	for _, at := range []int{0, 1, 4} {
		_, e := r.f.Read(at)
		want(t, "Read", e, api.ErrNil)
	}
	want(t, "Commit", r.f.Commit(1, put(0, 1)), api.ErrNil)
	want(t, "Commit, wrong", r.f.Commit(-1), api.ErrNil)
	want(t, "CheckIn", r.f.CheckIn(), api.ErrNil)
}
