package wal_test

import (
	"bytes"
	"fmt"
	"iter"
	"maps"
	"math"
	"reflect"
	"testing"

	"loupe/api"
	"loupe/disk"
)

// shown is a page that Pages tells.
type shown struct {
	page int
	b    []byte
}

// gone is all that an iterator goes over.
func gone(all iter.Seq2[int, []byte]) []shown {
	var l []shown
	for page, b := range all {
		l = append(l, shown{page, b})
	}
	return l
}

// wantPages holds what an iterator goes over against what is wanted.
func wantPages(t *testing.T, name string, all iter.Seq2[int, []byte], l ...shown) {
	t.Helper()
	if got := gone(all); !reflect.DeepEqual(got, l) {
		t.Errorf("%s: Pages goes over %x, not %x", name, got, l)
	}
}

// tellPair is a log of three pages in four frames.
func tellPair(t *testing.T) pair {
	t.Helper()
	r := newPair(t, small)
	ok(t, r.append(t, 2, put(3, 1), put(0, 2)), r.append(t, 4, put(2, 3), put(0, 4)))
	return r
}

// P6.2: Page, Size, Many, Epoch, Disk behind each call.
func TestTells(t *testing.T) {
	d := newDisk(t, small)
	r, e := opened(t, d, small)
	ok(t, e)
	hold := func(name string, s state, room int) {
		t.Helper()
		wantState(t, name, r.l, s)
		if _, got := r.l.Many(); got != room {
			t.Errorf("%s: room for %d, not %d", name, got, room)
		}
		if r.l.Disk() != d {
			t.Errorf("%s: another disk", name)
		}
		for _, page := range []int{0, 1, 2, 3, -1, 4, 5, 1999, 2000, 2001, math.MinInt, math.MaxInt} {
			b, is := r.l.Page(page)
			if want, wantIs := s.pages[page]; !bytes.Equal(b, want) || is != wantIs || (b == nil) == is {
				t.Errorf("%s: Page(%d) is %x, %v", name, page, b, is)
			}
		}
	}
	hold("new", state{0, 0, 1, nil}, 5)
	ok(t, r.append(t, 3, put(0, 1)))
	hold("a page", state{3, 1, 1, map[int][]byte{0: page(1)}}, 4)
	ok(t, r.append(t, 1, put(3, 2), api.PageWrite{Page: 1, Bytes: make([]byte, 512)}))
	hold("two more", state{1, 3, 1, map[int][]byte{0: page(1), 1: make([]byte, 512), 3: page(2)}}, 2)
	want(t, "too many", r.append(t, 4, many(3)...), api.ErrFull)
	want(t, "wrong", r.append(t, 5, many(1)...), api.ErrArg)
	hold("refused", state{1, 3, 1, map[int][]byte{0: page(1), 1: make([]byte, 512), 3: page(2)}}, 2)
	ok(t, r.append(t, 0, put(1, 4), put(0, 5)))
	hold("full", state{0, 5, 1, map[int][]byte{0: page(5), 1: page(4), 3: page(2)}}, 0)
	want(t, "one more", r.append(t, 4, put(1, 4)), api.ErrFull)
	ok(t, r.reset(t))
	hold("reset", state{0, 0, 2, nil}, 5)
	ok(t, r.append(t, 4, put(2, 6)))
	hold("on", state{4, 1, 2, map[int][]byte{2: page(6)}}, 4)
	ok(t, r.reset(t), r.reset(t))
	hold("reset twice", state{4, 0, 4, nil}, 5)
}

// P6.2: a log tells all that it has, also when its disk has stopped, and when others changed the disk.
func TestTellsStopped(t *testing.T) {
	r := tellPair(t)
	was := told(r.l)
	r.stop(t, 0)
	r.hold(t)
	d := r.l.Disk()
	ok(t, d.Crash(0), d.Write(2, make([]byte, 64)), d.Write(3, bytes.Repeat([]byte{1}, 64)), d.Sync())
	wantState(t, "changed", r.l, was)
}

// P6.2: asking changes nothing.
func TestTellsAlone(t *testing.T) {
	r := tellPair(t)
	d := r.l.Disk()
	ok(t, d.Write(40, bytes.Repeat([]byte{1}, 64)), d.Stop(3))
	was := d.Copy()
	for range 3 {
		told(r.l)
		r.l.Page(0)
		r.l.Page(1)
		gone(r.l.Pages())
	}
	if !disk.Same(d, was) {
		t.Errorf("asking changed the disk")
	}
}

// P6.2: Pages rise, whatever the order in which they were appended.
func TestPagesRise(t *testing.T) {
	p := api.Plan{Frames: 300, Pages: 300}
	for _, step := range []int{1, 7, 149, 299} {
		r := newPair(t, p)
		var w []api.PageWrite
		var l []shown
		for i := range 300 {
			w = append(w, put(i*step%300, byte(i)))
		}
		for at := range 300 {
			for i, p := range w {
				if p.Page == at {
					l = append(l, shown{at, page(byte(i))})
				}
			}
		}
		ok(t, r.l.Append(9, w...))
		wantPages(t, fmt.Sprintf("step %d", step), r.l.Pages(), l...)
	}
	r := tellPair(t)
	wantPages(t, "with the last bytes of each", r.l.Pages(), shown{0, page(4)}, shown{2, page(3)}, shown{3, page(1)})
}

// P6.2: pages as they were when they were asked for.
func TestPagesAsTheyWere(t *testing.T) {
	r := newPair(t, small)
	none := r.l.Pages()
	ok(t, r.append(t, 2, put(3, 1), put(0, 2)))
	two := r.l.Pages()
	ok(t, r.append(t, 4, put(2, 3), put(0, 4)))
	three := r.l.Pages()
	for range 2 {
		wantPages(t, "none", none)
		wantPages(t, "two", two, shown{0, page(2)}, shown{3, page(1)})
		wantPages(t, "three", three, shown{0, page(4)}, shown{2, page(3)}, shown{3, page(1)})
		ok(t, r.reset(t), r.append(t, 1, put(1, 9), put(0, 9)))
	}
	wantPages(t, "then", r.l.Pages(), shown{0, page(9)}, shown{1, page(9)})
}

// P6.2: the log may be changed while its pages are gone over.
func TestPagesMeanwhile(t *testing.T) {
	r := tellPair(t)
	var l []shown
	for at, b := range r.l.Pages() {
		l = append(l, shown{at, b})
		if at == 0 {
			ok(t, r.append(t, 1, put(3, 9)))
		} else {
			ok(t, r.reset(t), r.append(t, 1, put(1, 8), put(3, 7)))
		}
	}
	if want := []shown{{0, page(4)}, {2, page(3)}, {3, page(1)}}; !reflect.DeepEqual(l, want) {
		t.Errorf("gone over meanwhile: %x", l)
	}
}

// P6.2: Pages left early at each place, gone over again, and over one another.
func TestPagesLeft(t *testing.T) {
	r := tellPair(t)
	pages := r.l.Pages()
	all := gone(pages)
	for leave := range 4 {
		var l []shown
		for at, b := range pages {
			if len(l) == leave {
				break
			}
			l = append(l, shown{at, b})
		}
		if !reflect.DeepEqual(l, append([]shown(nil), all[:len(l)]...)) || len(l) != min(leave, 3) {
			t.Errorf("left behind %d: %x", leave, l)
		}
		calls := 0
		pages(func(int, []byte) bool { calls++; return calls < leave })
		if calls != min(max(leave, 1), 3) {
			t.Errorf("left behind %d: %d calls", leave, calls)
		}
	}
	wantPages(t, "again", pages, all...)
	for at, b := range pages {
		wantPages(t, "within itself", pages, all...)
		for other, c := range pages {
			if (at == other) != bytes.Equal(b, c) {
				t.Errorf("pages %d, %d", at, other)
			}
		}
	}
	var within []int
	for at := range pages {
		within = append(within, at)
	}
	if !reflect.DeepEqual(within, []int{0, 2, 3}) {
		t.Errorf("the pages alone: %v", within)
	}
}

// P6.2: each answer is new.
func TestTellsApart(t *testing.T) {
	r := tellPair(t)
	pages := r.l.Pages()
	was := told(r.l)
	spoil := func(b []byte) {
		clear(b)
		_ = append(b, bytes.Repeat([]byte{7}, 600)...)
	}
	for range 2 {
		one, _ := r.l.Page(0)
		other, _ := r.l.Page(0)
		spoil(one)
		if !bytes.Equal(other, page(4)) {
			t.Errorf("two answers share their bytes")
		}
		for _, b := range pages {
			spoil(b)
		}
		first, second := maps.Collect(pages), maps.Collect(pages)
		for _, b := range first {
			spoil(b)
		}
		if !bytes.Equal(second[0], page(4)) {
			t.Errorf("Pages shares its bytes")
		}
		wantState(t, "spoilt", r.l, was)
		wantPages(t, "spoilt", pages, shown{0, page(4)}, shown{2, page(3)}, shown{3, page(1)})
		r.hold(t)
	}
}
