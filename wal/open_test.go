package wal_test

import (
	"fmt"
	"math"
	"slices"
	"testing"

	"loupe/api"
	"loupe/disk"
	"loupe/wal"
)

// small is a plan of few frames and pages.
var small = api.Plan{Frames: 5, Pages: 4}

// lay lays bytes on a disk, sector by sector, and syncs it.
func lay(t *testing.T, d *disk.Disk, at int, b []byte) {
	t.Helper()
	if e := run(d, append(ops(at, b), op{})); e != api.OK {
		t.Fatalf("laying is %v", e)
	}
}

// P6.1: a disk of noughts is formatted.
func TestOpenNew(t *testing.T) {
	for _, p := range []api.Plan{{Frames: 1, Pages: 1}, {Frames: 1, Pages: 2000}, {Frames: 2000, Pages: 1}, {Frames: 3, Pages: 2}, {Frames: 2000, Pages: 2000}} {
		d := newDisk(t, p)
		l, e := wal.Open(d, p)
		if l == nil || e != api.OK {
			t.Fatalf("Open(%v) is %v, %v", p, l, e)
		}
		wantState(t, "new", l, state{epoch: 1})
		if many, room := l.Many(); many != 0 || room != p.Frames || l.Disk() != d || d.Loose() != 0 {
			t.Errorf("Open(%v): %d, %d, Disk %v, Loose %d", p, many, room, l.Disk() == d, d.Loose())
		}
		formatted := newDisk(t, p)
		lay(t, formatted, 1, layHead(api.Head{Serial: 1, Epoch: 1}))
		if !disk.Same(d, formatted) {
			t.Errorf("Open(%v): another disk than a formatted one", p)
		}
	}
}

// P6.1: the head's bytes as the chapters' words come to.
func TestFormattedBytes(t *testing.T) {
	d := newDisk(t, small)
	_, e := wal.Open(d, small)
	want(t, "Open", e, api.OK)
	half := "\x00\x00\x00\x00\x00\x00\x00\x01\x00\x00\x00\x00\x00\x00\x00\x01\x00\x00\x00\x00\x00\x00\x00\x00\x33\x1c\x15\x20"
	for at, b := range d.All() {
		if at != 1 || string(b) != half+half+"\x00\x00\x00\x00\x00\x00\x00\x00" {
			t.Errorf("sector %d is %x", at, b)
		}
	}
}

// P6.1: what Open refuses, in the chapter's order; the disk stays as it was.
func TestOpenRefused(t *testing.T) {
	p := api.Plan{Frames: 3, Pages: 2}
	none := []api.Plan{{}, {Frames: 0, Pages: 1}, {Frames: 1, Pages: 0}, {Frames: -1, Pages: 2}, {Frames: 3, Pages: -2}, {Frames: 2001, Pages: 2}, {Frames: 3, Pages: 2001}, {Frames: math.MinInt, Pages: math.MinInt}, {Frames: math.MaxInt, Pages: math.MaxInt}, {Frames: math.MaxInt/9 + 1, Pages: 2}}
	for _, no := range append([]api.Plan{p}, none...) {
		for _, d := range []*disk.Disk{nil, {}} {
			if l, e := wal.Open(d, no); l != nil || e != api.ErrNil {
				t.Errorf("Open of no disk, %v is %v, %v", no, l, e)
			}
		}
	}
	for _, stopped := range []bool{false, true} {
		refused := func(sectors int, p api.Plan, want api.Errno) {
			d, e := disk.New(sectors)
			if e == api.OK && stopped {
				e = d.Stop(0)
			}
			if e != api.OK {
				t.Fatalf("a disk of %d is %v", sectors, e)
			}
			was := d.Copy()
			if l, e := wal.Open(d, p); l != nil || e != want {
				t.Errorf("Open of %d sectors, %v is %v, %v, not %v", sectors, p, l, e, want)
			}
			if !disk.Same(d, was) {
				t.Errorf("Open of %d sectors, %v changed the disk", sectors, p)
			}
		}
		for _, no := range none {
			for _, sectors := range []int{1, 2, 19, 45, 40000} {
				refused(sectors, no, api.ErrArg)
			}
		}
		for _, sectors := range []int{1, 2, 11, 44, 46, 45 + 8, 45 - 8, 45 + 9, 45 - 9, 90, 40000} {
			refused(sectors, p, api.ErrArg)
		}
		refused(18, api.Plan{Frames: 1, Pages: 1}, api.ErrArg)
		refused(20, api.Plan{Frames: 1, Pages: 1}, api.ErrArg)
		refused(40000, api.Plan{Frames: 2000, Pages: 2000}, api.ErrArg)
	}
	d := newDisk(t, p)
	ok(t, d.Stop(0))
	if l, e := wal.Open(d, p); l != nil || e != api.ErrStopped {
		t.Errorf("Open of a disk that has stopped is %v, %v", l, e)
	}
}

// P6.1: a disk that has stopped is told, whether it has heads and frames or not.
func TestOpenStopped(t *testing.T) {
	r := newPair(t, small)
	ok(t, r.reset(t), r.append(t, 1, put(0, 1)))
	d := r.l.Disk()
	ok(t, d.Stop(0))
	_, e := opened(t, d, small)
	want(t, "Open", e, api.ErrStopped)
	ok(t, d.Stop(1))
	r, e = opened(t, d, small)
	want(t, "Open with a stop ahead", e, api.OK)
	if d.Stopped() {
		t.Errorf("Open of a disk with a head did more than reading")
	}
}

// turned is bytes with one bit turned over.
func turned(b []byte, at int) []byte {
	b = slices.Clone(b)
	b[at] ^= 1
	return b
}

// P6.1: the head is the good one with the greatest Serial; without a good one the disk is formatted.
func TestOpenHeads(t *testing.T) {
	head := func(serial uint64) []byte {
		return layHead(api.Head{Serial: serial, Epoch: ^serial, Size: 3, Count: 2})
	}
	noughts := make([]byte, 64)
	const none = 77 // no Serial of those below: the disk is formatted
	for _, c := range []struct {
		zero, one []byte
		serial    uint64
	}{
		{noughts, noughts, none},
		{head(0), noughts, 0},
		{head(2), noughts, 2},
		{noughts, head(1), 1},
		{noughts, head(3), 3},
		{head(1), noughts, none},
		{head(3), noughts, none},
		{noughts, head(0), none},
		{noughts, head(2), none},
		{head(3), head(2), none},
		{head(2), head(2), 2},
		{head(3), head(3), 3},
		{head(2), head(3), 3},
		{head(4), head(3), 4},
		{head(2), head(1), 2},
		{head(0), head(1), 1},
		{head(5), head(1), 1},
		{head(2), head(6), 2},
		{head(2), head(math.MaxUint64), math.MaxUint64},
		{head(math.MaxUint64 - 1), head(1), math.MaxUint64 - 1},
		{head(math.MaxUint64 - 1), head(math.MaxUint64), math.MaxUint64},
		{head(1 << 63), head(1<<63 - 1), 1 << 63},
		{head(1 << 32), head(math.MaxUint32), 1 << 32},
		{turned(head(4), 0), head(3), 3},
		{turned(head(4), 27), head(3), 3},
		{turned(head(4), 63), head(3), 3},
		{turned(head(4), 33), head(1), 1},
		{head(2), turned(head(3), 7), 2},
		{head(2), slices.Concat(head(3)[:28], head(1)[28:]), 2},
		{turned(head(2), 23), turned(head(3), 24), none},
		{slices.Repeat([]byte{255}, 64), slices.Repeat([]byte{255}, 64), none},
		{layHead(api.Head{Serial: 2, Size: 2001}), noughts, none},
		{layHead(api.Head{Serial: 2, Count: 2001}), head(1), 1},
	} {
		d := newDisk(t, small)
		lay(t, d, 0, slices.Concat(c.zero, c.one))
		formatted, was := d.Copy(), d.Copy()
		lay(t, formatted, 1, layHead(api.Head{Serial: 1, Epoch: 1}))
		name := fmt.Sprintf("heads %x, %x", c.zero[:8], c.one[:8])
		r, e := opened(t, d, small)
		want(t, name, e, api.OK)
		if c.serial == none {
			wantState(t, name, r.l, state{epoch: 1})
			was = formatted
		} else {
			wantState(t, name, r.l, state{epoch: ^c.serial, size: 3})
		}
		if !disk.Same(d, was) {
			t.Errorf("%s: the disk is another one", name)
		}
		ok(t, r.append(t, 4, put(1, 9)), r.reset(t))
	}
}

// chain is frames with pages of one epoch, each linked to the one ahead; those of a size from 0 on commit.
func chain(epoch uint64, sizes ...int) []api.Frame {
	var l []api.Frame
	link := uint32(0)
	for i, size := range sizes {
		f := api.Frame{Epoch: epoch, Index: i, Page: i % 3, Commit: size >= 0, Size: max(0, size), Link: link, Bytes: page(byte(10 * i))}
		_, link = layFrame(f)
		l = append(l, f)
	}
	return l
}

// relinked is frames one of which was changed, those behind it linked to it.
func relinked(l []api.Frame, at int, change func(*api.Frame)) []api.Frame {
	l = slices.Clone(l)
	change(&l[at])
	for i := at + 1; i < len(l); i++ {
		_, l[i].Link = layFrame(l[i-1])
	}
	return l
}

// P6.1, P6.2: the frames that count.
func TestOpenFrames(t *testing.T) {
	all := chain(3, 2, -1, 4, 0, 1)
	sum := func(f api.Frame) uint32 { _, s := layFrame(f); return s }
	for _, c := range []struct {
		name       string
		count      int
		l          []api.Frame
		many, size int
	}{
		{"no frames", 0, nil, 0, 1},
		{"no frames, but counted", 5, nil, 0, 1},
		{"frames, but none counted", 0, all, 0, 1},
		{"one of five", 1, all, 1, 2},
		{"two of five, the second commits nothing", 2, all, 1, 2},
		{"three of five", 3, all, 3, 4},
		{"four of five, the last one's size is 0", 4, all, 4, 0},
		{"all", 5, all, 5, 1},
		{"more than the plan has", 6, all, 5, 1},
		{"far more than the plan has", 2000, all, 5, 1},
		{"more than there are", 5, all[:3], 3, 4},
		{"more than there are, the last one commits nothing", 2000, all[:2], 1, 2},
		{"none commits", 5, chain(3, -1, -1, -1, -1, -1), 0, 1},
		{"the last one alone commits", 5, chain(3, -1, -1, -1, -1, 3), 5, 3},
		{"the last one alone commits, but is not counted", 4, chain(3, -1, -1, -1, -1, 3), 0, 1},
		{"several commit nothing behind one", 5, chain(3, -1, 0, -1, -1, -1), 2, 0},
		{"another epoch", 5, chain(2, 2, -1, 4, 0, 1), 0, 1},
		{"the epoch that follows", 5, chain(4, 2, -1, 4, 0, 1), 0, 1},
		{"an epoch whose lower half is the same", 5, chain(3+1<<32, 2, -1, 4, 0, 1), 0, 1},
		{"the fourth of another epoch", 5, relinked(all, 3, func(f *api.Frame) { f.Epoch = 2 }), 3, 4},
		{"the first with another Index", 5, relinked(all, 0, func(f *api.Frame) { f.Index = 1 }), 0, 1},
		{"the fourth with the next Index", 5, relinked(all, 3, func(f *api.Frame) { f.Index = 4 }), 3, 4},
		{"the fourth with Index 0", 5, relinked(all, 3, func(f *api.Frame) { f.Index = 0 }), 3, 4},
		{"the second with another Index", 5, relinked(all, 1, func(f *api.Frame) { f.Index = 2000 }), 1, 2},
		{"the first with a Link", 5, relinked(all, 0, func(f *api.Frame) { f.Link = 1 }), 0, 1},
		{"the first with its own sum as Link", 5, relinked(all, 0, func(f *api.Frame) { f.Link = sum(*f) }), 0, 1},
		{"the fourth without a Link", 5, relinked(all, 3, func(f *api.Frame) { f.Link = 0 }), 3, 4},
		{"the fourth with another Link", 5, relinked(all, 3, func(f *api.Frame) { f.Link ^= 1 << 31 }), 3, 4},
		{"the fourth linked to the second", 5, relinked(all, 3, func(f *api.Frame) { f.Link = sum(all[1]) }), 3, 4},
		{"the second changed, those behind it not", 5, slices.Concat(all[:1], relinked(all, 1, func(f *api.Frame) { f.Page = 3 })[1:2], all[2:]), 1, 2},
		{"the third changed, those behind it not", 5, slices.Concat(all[:2], relinked(all, 2, func(f *api.Frame) { f.Size = 3 })[2:3], all[3:]), 3, 3},
		{"the first changed, the others linked", 5, relinked(all, 0, func(f *api.Frame) { f.Bytes = page(99) }), 5, 1},
		{"a page that the plan has not", 5, relinked(all, 4, func(f *api.Frame) { f.Page = 4 }), 5, 1},
		{"page 2000", 5, relinked(all, 2, func(f *api.Frame) { f.Page = 2000 }), 5, 1},
		{"a size above the plan's pages", 5, relinked(all, 4, func(f *api.Frame) { f.Size = 2000 }), 5, 2000},
		{"a page over and over", 5, relinked(relinked(all, 1, func(f *api.Frame) { f.Page = 0 }), 3, func(f *api.Frame) { f.Page = 2 }), 5, 1},
	} {
		d := newDisk(t, small)
		lay(t, d, 0, layHead(api.Head{Serial: 8, Epoch: 3, Size: 1, Count: c.count}))
		for i, f := range c.l {
			b, _ := layFrame(f)
			lay(t, d, 2+9*i, b)
		}
		wantFrames(t, c.name, d, c.l[:c.many], state{size: c.size, epoch: 3})
	}
}

// wantFrames holds that those frames count on a disk, and that it goes on behind them.
func wantFrames(t *testing.T, name string, d *disk.Disk, l []api.Frame, s state) {
	t.Helper()
	was := d.Copy()
	r, e := opened(t, d, small)
	r.done = name + ": " + r.done
	want(t, r.done, e, api.OK)
	s.many, s.pages = len(l), map[int][]byte{}
	for _, f := range l {
		s.pages[f.Page] = f.Bytes
		if b, is := r.l.Page(f.Page); !is || len(b) != 512 {
			t.Errorf("%sPage(%d) is %x, %v", r.done, f.Page, b, is)
		}
	}
	wantState(t, r.done, r.l, s)
	if many, room := r.l.Many(); many != len(l) || room != small.Frames-len(l) {
		t.Errorf("%sMany is %d, %d", r.done, many, room)
	}
	if !disk.Same(d, was) {
		t.Errorf("%sthe disk was changed", r.done)
	}
	if len(l) < small.Frames {
		want(t, r.done, r.append(t, 2, put(3, 200)), api.OK)
	} else {
		want(t, r.done, r.append(t, 2, put(3, 200)), api.ErrFull)
	}
	ok(t, r.reset(t), r.append(t, 3, put(0, 1), put(1, 2), put(2, 3), put(3, 4), put(0, 5)))
}

// P6.1: frames with one bit turned over count no more, nor those behind them.
func TestOpenTurned(t *testing.T) {
	l := chain(3, -1, 2, 4, -1, 1)
	for at := range l {
		many := []int{0, 0, 2, 3, 3}[at]
		size := []int{1, 1, 2, 4, 4}[at]
		for _, bit := range []int{0, 7, 11, 15, 16, 20, 24, 28, 29, 63, 64, 127, 320, 575} {
			d := newDisk(t, small)
			lay(t, d, 1, layHead(api.Head{Serial: 9, Epoch: 3, Size: 1, Count: 5}))
			for i, f := range l {
				b, _ := layFrame(f)
				if i == at {
					b = turned(b, bit)
				}
				lay(t, d, 2+9*i, b)
			}
			wantFrames(t, fmt.Sprintf("byte %d of frame %d", bit, at), d, l[:many], state{size: size, epoch: 3})
		}
	}
}

// P6.1: a head's own fields are the log's, where no frame counts.
func TestOpenHeadFields(t *testing.T) {
	for _, h := range []api.Head{{}, {Serial: 1}, {Serial: 2, Epoch: math.MaxUint64}, {Serial: math.MaxUint64, Epoch: math.MaxUint64, Size: 2000, Count: 2000}, {Serial: 4, Epoch: 5, Size: 4, Count: 5}, {Serial: 7, Epoch: 1, Size: 5}, {Serial: 1 << 63, Epoch: 1 << 63, Size: 257, Count: 1}} {
		d := newDisk(t, small)
		lay(t, d, int(h.Serial%2), layHead(h))
		r, e := opened(t, d, small)
		want(t, "Open", e, api.OK)
		wantState(t, fmt.Sprintf("%v", h), r.l, state{size: h.Size, epoch: h.Epoch})
		ok(t, r.append(t, 1, put(0, 1)), r.append(t, 2, put(1, 2)), r.reset(t), r.reset(t), r.append(t, 3, put(2, 3)))
		wantState(t, fmt.Sprintf("%v, then on", h), r.l, state{size: 3, many: 1, epoch: h.Epoch + 2, pages: map[int][]byte{2: page(3)}})
	}
}

// P6.1: what was laid by a log is found by another one, again and again.
func TestOpenAgain(t *testing.T) {
	r := newPair(t, small)
	ok(t, r.append(t, 2, put(1, 1), put(0, 2)), r.append(t, 3, put(1, 3)))
	d := r.l.Disk()
	for i := range 4 {
		was := d.Copy()
		again, e := opened(t, d, small)
		want(t, "Open", e, api.OK)
		wantState(t, fmt.Sprintf("opened %d times", i), again.l, state{3, 3, 1, map[int][]byte{0: page(2), 1: page(3)}})
		if !disk.Same(d, was) {
			t.Errorf("Open changed the disk")
		}
	}
}

// P6.1: new logs are apart.
func TestOpenApart(t *testing.T) {
	a, b := newPair(t, small), newPair(t, small)
	ok(t, a.append(t, 2, put(1, 1)), a.reset(t), a.append(t, 3, put(2, 2)))
	b.hold(t)
	wantState(t, "the other one", b.l, state{epoch: 1})
}
