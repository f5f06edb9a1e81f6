package wal_test

import (
	"bytes"
	"fmt"
	"math"
	"slices"
	"testing"

	"loupe/api"
	"loupe/disk"
	"loupe/wal"
)

// The chapter's example.
func TestExample(t *testing.T) {
	p := api.Plan{Frames: 3, Pages: 2}
	l, e := wal.Open(newDisk(t, p), p)
	ok(t, e)
	if l.Epoch() != 1 {
		t.Errorf("Epoch is %d", l.Epoch())
	}
	ok(t, l.Append(2, put(1, 7)))
	if many, room := l.Many(); l.Size() != 2 || many != 1 || room != 2 {
		t.Errorf("Size is %d, Many %d, %d", l.Size(), many, room)
	}
	want(t, "three pages", l.Append(2, put(0, 1), put(1, 2), put(0, 3)), api.ErrFull)
	ok(t, l.Reset())
	if b, is := l.Page(1); l.Epoch() != 2 || l.Size() != 2 || b != nil || is {
		t.Errorf("Epoch is %d, Size %d, Page %x, %v", l.Epoch(), l.Size(), b, is)
	}
}

// P6.1: all that is on the disk behind a few appends and resets, sector by sector.
func TestSectors(t *testing.T) {
	r := newPair(t, small)
	d := r.l.Disk()
	hold := func(name string, zero, one api.Head, l ...api.Frame) {
		t.Helper()
		other := newDisk(t, small)
		lay(t, other, 1, layHead(one))
		if zero != (api.Head{}) {
			lay(t, other, 0, layHead(zero))
		}
		for i, f := range l {
			b, _ := layFrame(f)
			lay(t, other, 2+9*i, b)
		}
		if !disk.Same(d, other) {
			t.Errorf("%s: another disk", name)
		}
	}
	a := api.Frame{Epoch: 1, Page: 2, Commit: true, Size: 3, Bytes: page(1)}
	_, sum := layFrame(a)
	b := api.Frame{Epoch: 1, Index: 1, Page: 0, Link: sum, Bytes: page(2)}
	_, sum = layFrame(b)
	c := api.Frame{Epoch: 1, Index: 2, Page: 2, Commit: true, Size: 4, Link: sum, Bytes: page(3)}
	z := api.Frame{Epoch: 2, Page: 1, Commit: true, Size: 1, Bytes: page(4)}
	hold("new", api.Head{}, api.Head{Serial: 1, Epoch: 1})
	ok(t, r.l.Append(3, put(2, 1)))
	hold("one page", api.Head{Serial: 2, Epoch: 1, Size: 0, Count: 1}, api.Head{Serial: 1, Epoch: 1}, a)
	ok(t, r.l.Append(4, put(0, 2), put(2, 3)))
	hold("two more", api.Head{Serial: 2, Epoch: 1, Size: 0, Count: 1}, api.Head{Serial: 3, Epoch: 1, Size: 3, Count: 3}, a, b, c)
	ok(t, r.l.Reset())
	hold("reset", api.Head{Serial: 4, Epoch: 2, Size: 4}, api.Head{Serial: 3, Epoch: 1, Size: 3, Count: 3}, a, b, c)
	ok(t, r.l.Append(1, put(1, 4)))
	hold("one more", api.Head{Serial: 4, Epoch: 2, Size: 4}, api.Head{Serial: 5, Epoch: 2, Size: 4, Count: 1}, z, b, c)
	ok(t, r.l.Reset(), r.l.Reset())
	hold("reset twice", api.Head{Serial: 6, Epoch: 3, Size: 1}, api.Head{Serial: 7, Epoch: 4, Size: 1}, z, b, c)
}

// P6.1: ordinary appends and resets, each held against the model.
func TestAppendReset(t *testing.T) {
	for _, p := range []api.Plan{{Frames: 1, Pages: 1}, {Frames: 7, Pages: 3}, {Frames: 12, Pages: 1}, {Frames: 9, Pages: 40}} {
		r := newPair(t, p)
		var w []api.PageWrite
		for i := range p.Frames {
			w = append(w, put(i%p.Pages, byte(i)))
		}
		for i := range w {
			for range 2 {
				for from := 0; from <= i; from += 1 + i/2 {
					e := r.append(t, i%(p.Pages+1), w[from:i+1]...)
					if e != api.OK && e != api.ErrFull {
						t.Errorf("%sis %v", r.done, e)
					}
				}
				ok(t, r.reset(t))
				ok(t, r.append(t, p.Pages, w[:i+1]...))
			}
			ok(t, r.reset(t), r.reset(t))
		}
	}
}

// P6.1: room for just what is appended, and for one page less.
func TestFull(t *testing.T) {
	for _, frames := range []int{1, 2, 3, 8} {
		p := api.Plan{Frames: frames, Pages: 3}
		var w []api.PageWrite
		for i := range frames + 3 {
			w = append(w, put(i%3, byte(i)))
		}
		for first := 0; first <= frames; first++ {
			r := newPair(t, p)
			if first > 0 {
				ok(t, r.append(t, 1, w[:first]...))
			}
			was := r.l.Disk().Copy()
			for more := 1; more < 3; more++ {
				want(t, "too many", r.append(t, 2, w[:frames-first+more]...), api.ErrFull)
			}
			if !disk.Same(r.l.Disk(), was) {
				t.Errorf("what is refused changed the disk")
			}
			if first < frames {
				ok(t, r.append(t, 3, w[:frames-first]...))
			}
			if many, room := r.l.Many(); many != frames || room != 0 {
				t.Errorf("full: %d, %d", many, room)
			}
			want(t, "one more", r.append(t, 2, w[0]), api.ErrFull)
			ok(t, r.reset(t))
			want(t, "one more than all", r.append(t, 2, w[:frames+1]...), api.ErrFull)
			ok(t, r.append(t, 2, w[:frames]...))
		}
	}
}

// P6.1: a greatest plan's log, filled, opened again, reset.
func TestGreatest(t *testing.T) {
	p := api.Plan{Frames: 2000, Pages: 2000}
	d := newDisk(t, p)
	l, e := wal.Open(d, p)
	ok(t, e)
	var w []api.PageWrite
	pages := map[int][]byte{}
	for i := range 2000 {
		w = append(w, put(1999-i, byte(i*7)))
		pages[1999-i] = page(byte(i * 7))
	}
	ok(t, l.Append(7, w[:1]...), l.Append(2000, w[1:]...))
	want(t, "one more", l.Append(2000, w[0]), api.ErrFull)
	want(t, "all once more", l.Append(2000, w...), api.ErrFull)
	wantState(t, "full", l, state{2000, 2000, 1, pages})
	l, e = wal.Open(d, p)
	ok(t, e)
	wantState(t, "opened again", l, state{2000, 2000, 1, pages})
	ok(t, l.Reset(), l.Append(0, w...))
	wantState(t, "filled at once", l, state{0, 2000, 2, pages})
}

// P6.1, P6.2: sizes from 0 to Pages, and pages that are not below the size.
func TestSizes(t *testing.T) {
	for _, pages := range []int{1, 4, 300, 2000} {
		p := api.Plan{Frames: 6, Pages: pages}
		for _, size := range []int{0, 1, pages / 2, pages - 1, pages} {
			r := newPair(t, p)
			ok(t, r.append(t, size, put(pages-1, 3)))
			if r.l.Size() != size {
				t.Errorf("Size is %d, not %d", r.l.Size(), size)
			}
			ok(t, r.append(t, pages-size, put(0, 4), put(pages/2, 5)), r.append(t, size, put(0, 6)), r.reset(t))
			if r.l.Size() != size {
				t.Errorf("Size is %d behind Reset, not %d", r.l.Size(), size)
			}
			ok(t, r.append(t, pages-size, put(0, 4)))
		}
	}
}

// P6.1, P6.2: an append with a page more than once: all are frames, and the last one is told.
func TestPageTwice(t *testing.T) {
	r := newPair(t, small)
	ok(t, r.append(t, 2, put(1, 1), put(0, 2), put(1, 3), put(1, 4)))
	wantState(t, "a page three times", r.l, state{2, 4, 1, map[int][]byte{0: page(2), 1: page(4)}})
	ok(t, r.append(t, 2, put(1, 1)))
	wantState(t, "as it was at first", r.l, state{2, 5, 1, map[int][]byte{0: page(2), 1: page(1)}})
	ok(t, r.reset(t), r.append(t, 2, put(3, 5), put(3, 5)))
	wantState(t, "the same twice", r.l, state{2, 2, 2, map[int][]byte{3: page(5)}})
}

// wrongs is appends that may not be, each with a name.
func wrongs(p api.Plan) map[string]func(*wal.Log) api.Errno {
	l := map[string]func(*wal.Log) api.Errno{
		"no pages":              func(l *wal.Log) api.Errno { return l.Append(1) },
		"no pages, nil":         func(l *wal.Log) api.Errno { return l.Append(1, []api.PageWrite(nil)...) },
		"no pages, empty":       func(l *wal.Log) api.Errno { return l.Append(0, []api.PageWrite{}...) },
		"no pages, size -1":     func(l *wal.Log) api.Errno { return l.Append(-1) },
		"too many, one wrong":   func(l *wal.Log) api.Errno { return l.Append(1, append(many(p.Frames), put(-1, 1))...) },
		"too many, no bytes":    func(l *wal.Log) api.Errno { return l.Append(1, append(many(p.Frames), api.PageWrite{})...) },
		"too many, size -1":     func(l *wal.Log) api.Errno { return l.Append(-1, many(p.Frames+1)...) },
		"too many, beyond size": func(l *wal.Log) api.Errno { return l.Append(p.Pages+1, many(p.Frames+1)...) },
	}
	for _, size := range []int{-1, -2, -2000, p.Pages + 1, p.Pages + 2, 2000, 2001, 1 << 32, math.MinInt, math.MaxInt} {
		l[fmt.Sprintf("size %d", size)] = func(l *wal.Log) api.Errno { return l.Append(size, put(0, 1)) }
	}
	for _, page := range []int{-1, -2, p.Pages, p.Pages + 1, 1999, 2000, 2001, 1 << 32, math.MinInt, math.MaxInt} {
		l[fmt.Sprintf("page %d", page)] = func(l *wal.Log) api.Errno { return l.Append(1, put(page, 1)) }
		l[fmt.Sprintf("page %d behind", page)] = func(l *wal.Log) api.Errno { return l.Append(1, put(0, 1), put(page, 1)) }
		l[fmt.Sprintf("page %d ahead", page)] = func(l *wal.Log) api.Errno { return l.Append(1, put(page, 1), put(0, 1)) }
	}
	for _, many := range []int{0, 1, 64, 448, 511, 513, 576, 1024, 512 + 1<<16} {
		b := api.PageWrite{Bytes: make([]byte, many)}
		l[fmt.Sprintf("%d bytes", many)] = func(l *wal.Log) api.Errno { return l.Append(1, b) }
		l[fmt.Sprintf("%d bytes behind", many)] = func(l *wal.Log) api.Errno { return l.Append(1, put(0, 1), b) }
		l[fmt.Sprintf("%d bytes ahead", many)] = func(l *wal.Log) api.Errno { return l.Append(1, b, put(0, 1)) }
	}
	l["nil bytes"] = func(l *wal.Log) api.Errno { return l.Append(1, api.PageWrite{}) }
	l["nil bytes, with room"] = func(l *wal.Log) api.Errno { return l.Append(1, api.PageWrite{Bytes: page(1)[:511]}) }
	return l
}

// many is so many pages.
func many(n int) []api.PageWrite {
	var l []api.PageWrite
	for i := range n {
		l = append(l, put(0, byte(i)))
	}
	return l
}

// P6.1: what may not be is refused, on an empty log, on a full one, on one whose disk has stopped; nothing is changed.
func TestAppendRefused(t *testing.T) {
	for _, used := range []int{0, 2, 5} {
		for _, stopped := range []bool{false, true} {
			r := newPair(t, small)
			if used > 0 {
				ok(t, r.append(t, 3, many(used)...))
			}
			if stopped {
				r.stop(t, 0)
			}
			was := r.l.Disk().Copy()
			for name, call := range wrongs(small) {
				want(t, name, call(r.l), api.ErrArg)
				r.hold(t)
			}
			for n := 1; n < 8; n++ {
				e := api.OK
				if stopped {
					e = api.ErrStopped
				}
				if n > 5-used {
					e = api.ErrFull
				}
				if e != api.OK {
					want(t, fmt.Sprintf("%d pages more than %d", n, used), r.append(t, 4, many(n)...), e)
				}
			}
			if stopped {
				want(t, "Reset", r.reset(t), api.ErrStopped)
			}
			if !disk.Same(r.l.Disk(), was) {
				t.Errorf("what was refused changed the disk")
			}
		}
	}
}

// P6.1, P6.2: no log, and one that Open did not make.
func TestNoLog(t *testing.T) {
	for _, l := range []*wal.Log{nil, {}} {
		for name, call := range wrongs(small) {
			want(t, name, call(l), api.ErrNil)
		}
		want(t, "Append", l.Append(0, put(0, 1)), api.ErrNil)
		want(t, "Append of too many", l.Append(0, many(3000)...), api.ErrNil)
		want(t, "Reset", l.Reset(), api.ErrNil)
		wantState(t, "no log", l, state{})
		if many, room := l.Many(); many != 0 || room != 0 || l.Disk() != nil {
			t.Errorf("no log: %d, %d, %v", many, room, l.Disk())
		}
		for _, page := range []int{0, 1, -1, 2000, math.MinInt, math.MaxInt} {
			if b, is := l.Page(page); b != nil || is {
				t.Errorf("no log: Page(%d) is %x, %v", page, b, is)
			}
		}
		pages := l.Pages()
		for range 2 {
			for page := range pages {
				t.Errorf("no log: Pages tells %d", page)
			}
		}
	}
}

// P6.1: what is handed in is not changed and not kept.
func TestAppendApart(t *testing.T) {
	room := func(first byte) []byte { return append(page(first), "some room behind them"...) }
	a, b := room(1), room(2)
	w := []api.PageWrite{{Page: 1, Bytes: a[:512]}, {Page: 0, Bytes: b[:512]}, {Page: 3, Bytes: []byte("behind")}}
	r := newPair(t, small)
	ok(t, r.append(t, 3, w[:2]...))
	if !bytes.Equal(a, room(1)) || !bytes.Equal(b, room(2)) || w[0].Page != 1 || w[1].Page != 0 || w[2].Page != 3 || string(w[2].Bytes) != "behind" || len(w[0].Bytes) != 512 || len(w[1].Bytes) != 512 {
		t.Errorf("Append changed its pages")
	}
	clear(a)
	clear(b)
	clear(w)
	wantState(t, "changed behind it", r.l, state{3, 2, 1, map[int][]byte{0: page(2), 1: page(1)}})
	one := page(5)
	ok(t, r.append(t, 3, api.PageWrite{Page: 2, Bytes: one}, api.PageWrite{Page: 3, Bytes: one}))
	two, _ := r.l.Page(2)
	clear(two)
	clear(one)
	r.hold(t)
	wantState(t, "the same bytes twice", r.l, state{3, 4, 1, map[int][]byte{0: page(2), 1: page(1), 2: page(5), 3: page(5)}})
	again, e := opened(t, r.l.Disk(), small)
	ok(t, e)
	again.hold(t)
}

// P6.1: a stop at each operation: what is on the disk then, and that the log stays as it was. The last one counts no more.
func TestStopped(t *testing.T) {
	calls := map[string]func(*pair) api.Errno{
		"one page":  func(r *pair) api.Errno { return r.append(t, 4, put(1, 9)) },
		"two pages": func(r *pair) api.Errno { return r.append(t, 2, put(3, 9), put(0, 8)) },
		"reset":     func(r *pair) api.Errno { return r.reset(t) },
	}
	done := map[string]int{"one page": 12, "two pages": 21, "reset": 2}
	for name, call := range calls {
		for _, used := range []int{0, 1, 3} {
			for after := 0; after <= done[name]+1; after++ {
				r := newPair(t, small)
				if used > 0 {
					ok(t, r.append(t, 3, many(used)...))
				}
				r.stop(t, after)
				was := told(r.l)
				e := call(&r)
				if wanted := after >= done[name]; wanted != (e == api.OK) || !wanted && e != api.ErrStopped {
					t.Errorf("%s%s: %v", r.done, name, e)
				}
				if e != api.OK && !told(r.l).same(was) {
					t.Errorf("%s%s: tells %v, not %v", r.done, name, told(r.l), was)
				}
			}
		}
	}
}

// P6.1: a log whose disk has stopped goes on, if a stop is laid in the other one's place.
func TestGoesOn(t *testing.T) {
	for after := range 12 {
		r := newPair(t, small)
		ok(t, r.append(t, 1, put(0, 1)))
		r.stop(t, after)
		want(t, "Append", r.append(t, 2, put(1, 2)), api.ErrStopped)
		r.stop(t, 100)
		ok(t, r.append(t, 3, put(2, 3)))
		wantState(t, "another append", r.l, state{3, 2, 1, map[int][]byte{0: page(1), 2: page(3)}})
		r.stop(t, after%2)
		want(t, "Reset", r.reset(t), api.ErrStopped)
		r.stop(t, 100)
		ok(t, r.append(t, 4, put(3, 4)), r.reset(t), r.append(t, 1, put(1, 5)))
		wantState(t, "and then on", r.l, state{1, 1, 2, map[int][]byte{1: page(5)}})
	}
}

// P6.1: the Serials and epochs that follow the greatest ones are 0.
func TestWrapsRound(t *testing.T) {
	d := newDisk(t, small)
	lay(t, d, 1, layHead(api.Head{Serial: math.MaxUint64, Epoch: math.MaxUint64, Size: 2}))
	r, e := opened(t, d, small)
	ok(t, e, r.reset(t), r.append(t, 3, put(0, 1)))
	wantState(t, "behind the greatest", r.l, state{3, 1, 0, map[int][]byte{0: page(1)}})
	var l []int
	for at := range d.All() {
		l = append(l, at)
	}
	if b, _ := d.Read(0); !bytes.Equal(b, layHead(api.Head{Serial: 0, Epoch: 0, Size: 2})) {
		t.Errorf("head 0 is %x", b)
	}
	if b, _ := d.Read(1); !bytes.Equal(b, layHead(api.Head{Serial: 1, Epoch: 0, Size: 2, Count: 1})) {
		t.Errorf("head 1 is %x", b)
	}
	if !slices.Equal(l, []int{0, 1, 2, 3, 4, 5, 6, 7, 8, 9, 10}) {
		t.Errorf("sectors %v", l)
	}
}
