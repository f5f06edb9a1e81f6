package pager_test

import (
	"bytes"
	"math"
	"slices"
	"testing"

	"loupe/api"
)

// P9.4: roots 0 to 15, each apart, to each page below the size, and to 0.
func TestRoots(t *testing.T) {
	for i := range 16 {
		r := newPair(t, small, 5)
		ok(t, r.begin(t))
		r.makes(t, 1, 2, 3)
		for _, to := range []int{3, 0, 1, 2} {
			ok(t, r.setRoot(t, i, to))
			r.wantRoots(t, map[int]int{i: to})
		}
		ok(t, r.free(t, 2), r.setRoot(t, 15-i, 1), r.commit(t))
		r.wantRoots(t, map[int]int{i: 2, 15 - i: 1})
		a := r.again(t, 2)
		a.wantRoots(t, map[int]int{i: 2, 15 - i: 1})
		ok(t, a.begin(t), a.setRoot(t, i, 0), a.commit(t))
		a.again(t, 2).wantRoots(t, map[int]int{15 - i: 1})
	}
}

// P9.4: numbers that are no root's: ErrArg, ahead of a page that there is not; pages that there are not: ErrRange. Nothing changes.
func TestRootsWrong(t *testing.T) {
	r := filled(t, small, 3)
	for range 2 {
		for _, i := range []int{-1, 16, 17, -16, 255, 1 << 32, -1 << 32, math.MinInt, math.MaxInt} {
			got, e := r.p.Root(i)
			if want(t, "Root", e, api.ErrArg); got != 0 {
				t.Errorf("root %d is %d", i, got)
			}
			if r.p.Under() {
				for _, page := range append(farPages(), 4, 5) {
					want(t, "SetRoot", r.setRoot(t, i, page), api.ErrArg)
				}
			}
		}
		r.begin(t)
	}
	for _, i := range []int{0, 7, 15} {
		for _, page := range []int{-1, 5, 6, 7, -5, 1999, 1 << 32, -1 << 32, math.MinInt, math.MaxInt} {
			want(t, "SetRoot", r.setRoot(t, i, page), api.ErrRange)
		}
	}
	r.wantRoots(t, map[int]int{0: 1, 15: 3})
	r.makes(t, 2, 4, 5)
	ok(t, r.setRoot(t, 0, 5))
	want(t, "SetRoot", r.setRoot(t, 0, 6), api.ErrRange)
	r.wantRoots(t, map[int]int{0: 5, 15: 3})
	ok(t, r.rollback(t), r.begin(t))
	want(t, "SetRoot", r.setRoot(t, 0, 5), api.ErrRange)
	ok(t, r.setRoot(t, 0, 4))
}

// P9.4: Size, Spare and Under behind each kind of call.
func TestTells(t *testing.T) {
	r := newPair(t, broad, 6)
	r.wantTells(t, 1, 0, false)
	ok(t, r.begin(t))
	r.wantTells(t, 1, 0, true)
	r.makes(t, 1, 2, 3)
	r.wantTells(t, 4, 0, true)
	ok(t, r.free(t, 2))
	r.wantTells(t, 4, 1, true)
	r.marksFrom(t, 0)
	ok(t, r.free(t, 1, 3))
	r.wantTells(t, 4, 3, true)
	r.makes(t, 3, 1, 2, 4)
	r.wantTells(t, 5, 0, true)
	ok(t, r.back(t, 0))
	r.wantTells(t, 4, 1, true)
	ok(t, r.commit(t))
	r.wantTells(t, 4, 1, false)
	ok(t, r.begin(t))
	r.makes(t, 2, 4)
	r.wantTells(t, 5, 0, true)
	r.stop(t, 0)
	want(t, "Commit", r.commit(t), api.ErrStopped)
	r.wantTells(t, 5, 0, true)
	ok(t, r.rollback(t))
	r.wantTells(t, 4, 1, false)
	ok(t, r.begin(t), r.commit(t))
	r.wantTells(t, 4, 1, false)
}

// full is a pager of six pages at hand, each with its number's bytes, in a transaction, and what Pages goes over.
func full(t *testing.T, room int) (*pair, []shown) {
	t.Helper()
	r := newPair(t, broad, room)
	ok(t, r.begin(t))
	var l []shown
	for at := 1; at < 6; at++ {
		r.makes(t, at)
		ok(t, r.put(t, byte(at), at))
		l = append(l, shown{at, string(page(byte(at)))})
	}
	ok(t, r.commit(t), r.begin(t))
	return r, l
}

// P9.4: Pages goes over the pages from 1 on, rising, whatever the room; left early at each place, gone over again, within itself, and within no transaction.
func TestPages(t *testing.T) {
	for room := 6; room < 9; room++ {
		r, wanted := full(t, room)
		all := r.p.Pages()
		for leave := range 7 {
			var l []shown
			for at, b := range all {
				if len(l) == leave {
					break
				}
				l = append(l, shown{at, string(b)})
			}
			if !slices.Equal(l, wanted[:min(leave, 5)]) {
				t.Errorf("left behind %d: %v", leave, l)
			}
			calls := 0
			all(func(int, []byte) bool { calls++; return calls < leave })
			if calls != min(max(leave, 1), 5) {
				t.Errorf("left behind %d: %d calls", leave, calls)
			}
		}
		for range 2 {
			if l := gone(all); !slices.Equal(l, wanted) {
				t.Errorf("gone over again: %v", l)
			}
			for at := range all {
				if l := gone(all); !slices.Equal(l, wanted) {
					t.Errorf("within itself, at %d: %v", at, l)
				}
			}
			ok(t, r.p.Rollback(), r.p.Begin())
		}
	}
	r := newPair(t, small, 2)
	if l := gone(r.p.Pages()); len(l) != 0 {
		t.Errorf("goes over %v", l)
	}
}

// P9.4: Pages with little room, of pages that are not at hand, and free.
func TestPagesRoom(t *testing.T) {
	for room := 2; room < 6; room++ {
		r := filled(t, small, room)
		wanted := []shown{{1, string(page(11))}, {2, string(freed(4))}, {3, string(page(13))}, {4, string(freed(0))}}
		for range 2 {
			if l := gone(r.p.Pages()); !slices.Equal(l, wanted) {
				t.Errorf("room %d: goes over %v", room, l)
			}
		}
	}
}

// P9.4: Pages tells each page as it is when it comes to it: written, made, freed, rolled back meanwhile, and before it is gone over.
func TestPagesLater(t *testing.T) {
	for name, w := range map[string]struct {
		do     func(r *pair)
		wanted []byte // the first bytes of each page, if it is done at page 2
	}{
		"nothing":       {func(r *pair) {}, []byte{1, 2, 3, 4, 5}},
		"written":       {func(r *pair) { ok(t, r.put(t, 50, 1, 2, 4)) }, []byte{1, 2, 3, 50, 5}},
		"made":          {func(r *pair) { r.makes(t, 6, 7) }, []byte{1, 2, 3, 4, 5, 0, 0}},
		"made, gone":    {func(r *pair) { r.makes(t, 6); ok(t, r.rollback(t)) }, []byte{1, 2, 3, 4, 5}},
		"freed":         {func(r *pair) { ok(t, r.free(t, 4, 5)) }, []byte{1, 2, 3, 0, 0}},
		"committed":     {func(r *pair) { ok(t, r.put(t, 60, 3), r.commit(t)) }, []byte{1, 2, 60, 4, 5}},
		"rolled back":   {func(r *pair) { ok(t, r.put(t, 60, 3), r.rollback(t)) }, []byte{1, 2, 3, 4, 5}},
		"marked, gone":  {func(r *pair) { r.mark(t); ok(t, r.put(t, 60, 3), r.back(t, 0)) }, []byte{1, 2, 3, 4, 5}},
		"roots":         {func(r *pair) { ok(t, r.setRoot(t, 0, 5)) }, []byte{1, 2, 3, 4, 5}},
		"another Pages": {func(r *pair) { r.pages(t) }, []byte{1, 2, 3, 4, 5}},
	} {
		r, _ := full(t, 9)
		var firsts []byte
		for at, b := range r.p.Pages() {
			if at == 2 {
				w.do(r)
			}
			firsts = append(firsts, b[0])
		}
		if !bytes.Equal(firsts, w.wanted) {
			t.Errorf("%s: goes over %v", name, firsts)
		}
		r, _ = full(t, 9)
		all := r.p.Pages()
		w.do(r)
		var l []shown
		for at := 1; at < r.m.now.size; at++ {
			l = append(l, shown{at, r.m.now.texts[at]})
		}
		if got := gone(all); !slices.Equal(got, l) {
			t.Errorf("%s, ahead: goes over %v", name, got)
		}
	}
}

// P9.4: Pages while a page is made at each of them: it goes on to them, and ends where there is none more; while the size goes back, it ends there.
func TestPagesMade(t *testing.T) {
	r := newPair(t, broad, 9)
	ok(t, r.begin(t))
	r.makes(t, 1)
	r.marksFrom(t, 0)
	var l []int
	for at := range r.p.Pages() {
		l = append(l, at)
		r.makePage(t)
	}
	if !slices.Equal(l, []int{1, 2, 3, 4, 5, 6, 7}) {
		t.Errorf("goes over %v", l)
	}
	l = nil
	for at := range r.p.Pages() {
		if l = append(l, at); at == 3 {
			ok(t, r.back(t, 0))
		}
	}
	if !slices.Equal(l, []int{1, 2, 3}) {
		t.Errorf("goes over %v", l)
	}
}

// P9.4: Pages as long as pages are told: up to one that can't be read, or has no room.
func TestPagesRefused(t *testing.T) {
	r := filled(t, small, 4)
	ok(t, r.look(t, 1, 2, 4))
	r.stop(t, 0)
	if l := gone(r.p.Pages()); len(l) != 2 {
		t.Errorf("stopped: goes over %v", l)
	}
	r.stop(t, 99)
	if l := gone(r.p.Pages()); len(l) != 4 {
		t.Errorf("goes over %v", l)
	}
	r = filled(t, small, 2)
	ok(t, r.begin(t), r.put(t, 50, 1, 4))
	if l := gone(r.p.Pages()); !slices.Equal(l, []shown{{1, string(page(50))}}) {
		t.Errorf("full: goes over %v", l)
	}
}

// P9.4: each page that is gone over is new memory; the pager's is not changed by it.
func TestPagesApart(t *testing.T) {
	r, wanted := full(t, 9)
	ok(t, r.put(t, 3, 3))
	for at, b := range r.p.Pages() {
		for other, c := range r.p.Pages() {
			if at == other {
				clear(c)
			}
		}
		if !bytes.Equal(b, page(byte(at))) {
			t.Errorf("page %d shares its bytes", at)
		}
		clear(b)
		_ = append(b, page(9)...)
	}
	if l := gone(r.p.Pages()); !slices.Equal(l, wanted) {
		t.Errorf("spoilt: %v", l)
	}
}

// P9.4: asking changes nothing.
func TestTellsApart(t *testing.T) {
	r := filled(t, small, 5)
	ok(t, r.begin(t), r.put(t, 50, 1), r.setRoot(t, 3, 3))
	r.unchanged(t, func() {
		for range 3 {
			for i := -1; i < 17; i++ {
				r.p.Root(i)
			}
			r.p.Size()
			r.p.Spare()
			r.p.Under()
			gone(r.p.Pages())
		}
	})
	r.wantTells(t, 5, 2, true)
	ok(t, r.p.Commit())
}
