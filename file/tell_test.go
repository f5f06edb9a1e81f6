package file_test

import (
	"bytes"
	"slices"
	"testing"

	"loupe/api"
	"loupe/disk"
	"loupe/file"
)

// wantGone holds what All goes over against pages with these first bytes, from page 0 on.
func wantGone(t *testing.T, name string, f *file.File, first ...byte) {
	t.Helper()
	if got := gone(f.All()); !slices.Equal(got, pagesOf(first...)) {
		t.Errorf("%s: goes over %v, not %v", name, got, pagesOf(first...))
	}
}

// pagesOf is pages with these first bytes, from page 0 on; 0 is a page of noughts.
func pagesOf(first ...byte) []shown {
	var l []shown
	for at, c := range first {
		b := page(c)
		if c == 0 {
			clear(b)
		}
		l = append(l, shown{at, string(b)})
	}
	return l
}

// tellPair is a file with page 0 in none, 1 in its sectors, 2 in both, 3 in the log; all are below the size.
func tellPair(t *testing.T) *pair {
	t.Helper()
	r := newPair(t, small)
	ok(t, r.commit(t, 3, put(2, 9), put(1, 1)), r.checkIn(t), r.commit(t, 4, put(3, 3), put(2, 2)))
	return r
}

// P7.3: the size, the plan and the disk behind each call.
func TestTells(t *testing.T) {
	d := newDisk(t, small)
	r, e := opened(t, d, small)
	ok(t, e)
	hold := func(size int) {
		t.Helper()
		if r.f.Size() != size || r.f.Plan() != small || r.f.Disk() != d {
			t.Errorf("%stells %d, %v", r.done, r.f.Size(), r.f.Plan())
		}
	}
	hold(0)
	for _, size := range []int{4, 0, 1, 3, 3, 2, 0, 4} {
		ok(t, r.commit(t, size, put(0, 1), put(3, 2)))
		hold(size)
		want(t, "wrong", r.commit(t, 1), api.ErrArg)
		want(t, "beyond Pages", r.commit(t, 5, put(0, 1)), api.ErrArg)
		want(t, "too many", r.commit(t, 1, puts(small, 4)...), api.ErrFull)
		r.stop(t, 0)
		want(t, "stopped", r.commit(t, 1, put(0, 9)), api.ErrStopped)
		want(t, "stopped", r.checkIn(t), api.ErrStopped)
		hold(size)
		r.stop(t, 99)
		ok(t, r.checkIn(t))
		hold(size)
		again, e := opened(t, d, small)
		ok(t, e)
		r = again
		hold(size)
	}
}

// P7.3: two files of other plans tell their own.
func TestPlans(t *testing.T) {
	for _, p := range []api.Plan{{Frames: 8, Pages: 1}, {Frames: 1, Pages: 8}, {Frames: 2000, Pages: 1}, {Frames: 1, Pages: 2000}} {
		r := newPair(t, p)
		ok(t, r.commit(t, p.Pages, put(p.Pages-1, 1)), r.checkIn(t))
		if r.f.Plan() != p || r.f.Size() != p.Pages || len(gone(r.f.All())) != p.Pages {
			t.Errorf("%v: tells %v, %d", p, r.f.Plan(), r.f.Size())
		}
		wantRead(t, "the last page", r.f, p.Pages-1, page(1))
	}
}

// P7.3: All goes over the pages below the size, wherever their bytes are.
func TestAll(t *testing.T) {
	r := newPair(t, small)
	wantGone(t, "new", r.f)
	ok(t, r.commit(t, 0, put(0, 5)))
	wantGone(t, "size 0", r.f)
	ok(t, r.commit(t, 1, put(1, 6)))
	wantGone(t, "size 1", r.f, 5)
	ok(t, r.checkIn(t))
	wantGone(t, "checked in", r.f, 5)
	ok(t, r.commit(t, 4, put(1, 7)))
	wantGone(t, "all", r.f, 5, 7, 0, 0)
	r = tellPair(t)
	wantGone(t, "in all places", r.f, 0, 1, 2, 3)
	ok(t, r.commit(t, 2, put(0, 4)))
	wantGone(t, "size 2", r.f, 4, 1)
	ok(t, r.commit(t, 4, put(0, 4)))
	wantGone(t, "larger again", r.f, 4, 1, 2, 3)
}

// P7.3: All left early at each place, and gone over again.
func TestAllLeft(t *testing.T) {
	r := tellPair(t)
	all := r.f.All()
	for leave := range 6 {
		var l []shown
		for at, b := range all {
			if len(l) == leave {
				break
			}
			l = append(l, shown{at, string(b)})
		}
		if !slices.Equal(l, pagesOf(0, 1, 2, 3)[:min(leave, 4)]) {
			t.Errorf("left behind %d: %v", leave, l)
		}
		calls := 0
		all(func(int, []byte) bool { calls++; return calls < leave })
		if calls != min(max(leave, 1), 4) {
			t.Errorf("left behind %d: %d calls", leave, calls)
		}
	}
	for range 2 {
		if !slices.Equal(gone(all), pagesOf(0, 1, 2, 3)) {
			t.Errorf("gone over again: %v", gone(all))
		}
	}
	for at := range all {
		if got := gone(all); !slices.Equal(got, pagesOf(0, 1, 2, 3)) {
			t.Errorf("within itself, at %d: %v", at, got)
		}
	}
}

// P7.3: All that was asked for earlier goes over the pages as they are when it comes to them.
func TestAllLater(t *testing.T) {
	r := newPair(t, small)
	all := r.f.All()
	hold := func(first ...byte) {
		t.Helper()
		if got := gone(all); !slices.Equal(got, pagesOf(first...)) {
			t.Errorf("%sgoes over %v", r.done, got)
		}
	}
	hold()
	ok(t, r.commit(t, 2, put(1, 1)))
	hold(0, 1)
	ok(t, r.checkIn(t))
	hold(0, 1)
	ok(t, r.commit(t, 4, put(3, 3), put(1, 4)))
	hold(0, 4, 0, 3)
	ok(t, r.commit(t, 1, put(0, 5)))
	hold(5)
}

// P7.3: pages that are committed, and checked in, while they are gone over.
func TestAllMeanwhile(t *testing.T) {
	meanwhile := func(name string, at int, do func(r *pair), first ...byte) {
		t.Helper()
		r := tellPair(t)
		var l []shown
		for page, b := range r.f.All() {
			if page == at {
				do(r)
			}
			l = append(l, shown{page, string(b)})
		}
		if !slices.Equal(l, pagesOf(first...)) {
			t.Errorf("%s, at %d: %v", name, at, l)
		}
	}
	for at := range 4 {
		meanwhile("checked in", at, func(r *pair) { ok(t, r.checkIn(t)) }, 0, 1, 2, 3)
		changed := []byte{0, 1, 2, 3}
		for later := at + 1; later < 4; later++ {
			changed[later] = 50
		}
		meanwhile("all changed", at, func(r *pair) {
			ok(t, r.commit(t, 4, put(0, 50)), r.commit(t, 4, put(1, 50), put(2, 50), put(3, 50)))
		}, changed...)
		meanwhile("all changed, and checked in", at, func(r *pair) {
			ok(t, r.commit(t, 4, put(0, 50)), r.commit(t, 4, put(1, 50), put(2, 50), put(3, 50)), r.checkIn(t))
		}, changed...)
		for size := range 5 {
			meanwhile("another size", at, func(r *pair) { ok(t, r.commit(t, size, put(0, 0))) }, []byte{0, 1, 2, 3}[:max(size, at+1)]...)
		}
		meanwhile("refused", at, func(r *pair) {
			want(t, "wrong", r.commit(t, 0), api.ErrArg)
			want(t, "too many", r.commit(t, 0, puts(small, 4)...), api.ErrFull)
		}, 0, 1, 2, 3)
	}
	r := tellPair(t)
	ok(t, r.commit(t, 1, put(0, 1)))
	var l []shown
	for at, b := range r.f.All() {
		l = append(l, shown{at, string(b)})
		ok(t, r.commit(t, min(at+2, 4), put(min(at+1, 3), byte(at+2))))
	}
	if !slices.Equal(l, pagesOf(1, 2, 3, 4)) {
		t.Errorf("growing: %v", l)
	}
}

// P7.3: All goes over pages as long as they can be read.
func TestAllStopped(t *testing.T) {
	r := newPair(t, small)
	ok(t, r.commit(t, 4, put(2, 9)), r.checkIn(t), r.commit(t, 4, put(0, 1), put(1, 2), put(3, 4)))
	all := r.f.All()
	r.stop(t, 0)
	for range 2 {
		if got := gone(all); !slices.Equal(got, pagesOf(1, 2)) {
			t.Errorf("stopped: %v", got)
		}
	}
	r.stop(t, 1)
	wantGone(t, "not yet", r.f, 1, 2, 9, 4)
	for at := range 4 {
		var l []shown
		for page, b := range all {
			l = append(l, shown{page, string(b)})
			if page == at {
				r.stop(t, 0)
			}
		}
		if wanted := pagesOf(1, 2, 9, 4)[:[]int{2, 2, 4, 4}[at]]; !slices.Equal(l, wanted) {
			t.Errorf("stopped at %d: %v", at, l)
		}
		r.stop(t, 99)
	}
	r = newPair(t, small)
	ok(t, r.commit(t, 4, put(1, 1)))
	r.stop(t, 0)
	wantGone(t, "none", r.f)
}

// P7.3: each answer is new memory, and asking changes nothing.
func TestTellsApart(t *testing.T) {
	r := tellPair(t)
	ok(t, r.f.Disk().Write(40, bytes.Repeat([]byte{1}, 64)), r.f.Disk().Stop(7))
	kept, was := has(t, r.f), r.f.Disk().Copy()
	for range 2 {
		for at, b := range r.f.All() {
			other, e := r.f.Read(at)
			ok(t, e)
			clear(b)
			_ = append(b, bytes.Repeat([]byte{7}, 600)...)
			if string(other) != kept.pages[at] {
				t.Errorf("page %d: All shares its bytes", at)
			}
		}
		for at, one := range r.f.All() {
			for other, b := range r.f.All() {
				if at == other {
					clear(b)
				}
			}
			if string(one) != kept.pages[at] {
				t.Errorf("page %d: All shares its bytes with itself", at)
			}
		}
	}
	if got := has(t, r.f); !got.same(kept) {
		t.Errorf("spoilt: has %v, not %v", got, kept)
	}
	if !disk.Same(was, r.f.Disk()) {
		t.Errorf("asking changed the disk")
	}
}

// P7.3: two files on disks of their own go on apart; two in a row on one disk are one.
func TestApart(t *testing.T) {
	r := tellPair(t)
	other, e := opened(t, r.f.Disk().Copy(), small)
	ok(t, e)
	kept := has(t, r.f)
	ok(t, other.commit(t, 1, puts(small, 3)...), other.checkIn(t))
	if got := has(t, r.f); !got.same(kept) {
		t.Errorf("another file changed it: has %v", got)
	}
	for i := range 6 {
		next, e := opened(t, other.f.Disk(), small)
		ok(t, e, next.commit(t, i%5, put(i%4, byte(i))))
		other = next
	}
	wantGone(t, "six in a row", other.f)
	wantRead(t, "the last one", other.f, 1, page(5))
}
