package cache_test

import (
	"bytes"
	"slices"
	"testing"

	"loupe/api"
	"loupe/disk"
)

// dirtyPair is a cache with pages 5, 0 and 3 dirty, in that order, and 1 clean, and what Dirty goes over.
func dirtyPair(t *testing.T) (*pair, []shown) {
	t.Helper()
	r := filled(t, 4)
	ok(t, r.put(t, 55, 5), r.look(t, 1), r.put(t, 50, 0), r.put(t, 53, 3))
	return r, showing(put(0, 50), put(3, 53), put(5, 55))
}

// P8.3: Dirty goes over the dirty pages alone, rising.
func TestDirty(t *testing.T) {
	r, l := dirtyPair(t)
	if got := gone(r.c.Dirty()); !slices.Equal(got, l) {
		t.Errorf("goes over %v", got)
	}
	r = newPair(t, small, 2)
	r.wantDirty(t)
	ok(t, r.look(t, 0, 5))
	r.wantDirty(t)
	ok(t, r.put(t, 0, 5))
	r.wantDirty(t, put(5, 0))
	ok(t, r.write(t, 0, make([]byte, 512)))
	r.wantDirty(t, api.PageWrite{Page: 0, Bytes: make([]byte, 512)}, put(5, 0))
}

// P8.3: Dirty rises whatever the order of the Writes.
func TestDirtyRising(t *testing.T) {
	p := api.Plan{Frames: 1, Pages: 400}
	r := newPair(t, p, 400)
	var w []api.PageWrite
	for i := range 400 {
		ok(t, r.c.Write(i*87%400, page(byte(i*87%400))))
		w = append(w, put(i, byte(i)))
	}
	r.wantDirty(t, w...)
}

// P8.3: Dirty left early at each place, gone over again, and within itself.
func TestDirtyLeft(t *testing.T) {
	r, wanted := dirtyPair(t)
	all := r.c.Dirty()
	for leave := range 5 {
		var l []shown
		for at, b := range all {
			if len(l) == leave {
				break
			}
			l = append(l, shown{at, string(b)})
		}
		if !slices.Equal(l, wanted[:min(leave, 3)]) {
			t.Errorf("left behind %d: %v", leave, l)
		}
		calls := 0
		all(func(int, []byte) bool { calls++; return calls < leave })
		if calls != min(max(leave, 1), 3) {
			t.Errorf("left behind %d: %d calls", leave, calls)
		}
	}
	for range 2 {
		if got := gone(all); !slices.Equal(got, wanted) {
			t.Errorf("gone over again: %v", got)
		}
	}
	for at := range all {
		if got := gone(all); !slices.Equal(got, wanted) {
			t.Errorf("within itself, at %d: %v", at, got)
		}
	}
}

// changes is what may be done to that cache, each by a name.
func changes(t *testing.T) map[string]func(r *pair) {
	return map[string]func(r *pair){
		"written":       func(r *pair) { ok(t, r.put(t, 80, 0, 3, 5), r.put(t, 81, 1)) },
		"one more":      func(r *pair) { ok(t, r.put(t, 80, 2)) },
		"committed":     func(r *pair) { ok(t, r.commit(t, 5)) },
		"dropped":       func(r *pair) { r.drop(t) },
		"read":          func(r *pair) { ok(t, r.look(t, 0, 4)) },
		"refused":       func(r *pair) { want(t, "Commit", r.commit(t, -1), api.ErrArg) },
		"all":           func(r *pair) { ok(t, r.put(t, 82, 3), r.commit(t, 6), r.put(t, 83, 5, 0)); r.drop(t) },
		"others' place": func(r *pair) { r.drop(t); ok(t, r.put(t, 84, 2, 4, 1)) },
	}
}

// P8.3: Dirty is as it was when it was asked for, whatever is written, committed and dropped behind that, and while it is gone over.
func TestDirtyLater(t *testing.T) {
	for name, do := range changes(t) {
		r, wanted := dirtyPair(t)
		all := r.c.Dirty()
		do(r)
		for range 2 {
			if got := gone(all); !slices.Equal(got, wanted) {
				t.Errorf("%s: goes over %v", name, got)
			}
		}
		for at := range 6 {
			r, wanted := dirtyPair(t)
			var l []shown
			for page, b := range r.c.Dirty() {
				if page == at {
					do(r)
				}
				l = append(l, shown{page, string(b)})
			}
			if !slices.Equal(l, wanted) {
				t.Errorf("%s, at %d: goes over %v", name, at, l)
			}
			r.hold(t)
		}
	}
}

// P8.3: what was asked for without any dirty page stays so.
func TestDirtyNothing(t *testing.T) {
	r := filled(t, 3)
	none := r.c.Dirty()
	ok(t, r.put(t, 50, 1))
	one := r.c.Dirty()
	ok(t, r.put(t, 51, 1, 2))
	if l := gone(none); len(l) != 0 {
		t.Errorf("goes over %v", l)
	}
	if l := gone(one); !slices.Equal(l, showing(put(1, 50))) {
		t.Errorf("goes over %v", l)
	}
}

// P8.3: each answer of Dirty is new memory, also when it is gone over again.
func TestDirtyApart(t *testing.T) {
	r, wanted := dirtyPair(t)
	all := r.c.Dirty()
	for range 3 {
		for at, b := range all {
			for other, c := range all {
				if at == other {
					clear(c)
					_ = append(c, bytes.Repeat([]byte{7}, 600)...)
				}
			}
			if first := byte(50 + at); !bytes.Equal(b, page(first)) {
				t.Errorf("page %d: shares its bytes", at)
			}
			clear(b)
			_ = append(b, bytes.Repeat([]byte{7}, 600)...)
		}
	}
	if l := gone(all); !slices.Equal(l, wanted) {
		t.Errorf("spoilt: %v", l)
	}
	r.hold(t)
	for _, at := range []int{0, 3, 5} {
		r.wantRead(t, at, byte(50+at))
	}
}

// P8.3: Has, behind each kind of call.
func TestHas(t *testing.T) {
	r := filled(t, 2)
	ok(t, r.look(t, 4))
	r.wantHas(t, 4)
	ok(t, r.put(t, 50, 1))
	r.wantHas(t, 1, 4)
	ok(t, r.look(t, 0))
	r.wantHas(t, 0, 1)
	want(t, "wrong", r.write(t, 5, nil), api.ErrArg)
	r.wantHas(t, 0, 1)
	r.drop(t)
	r.wantHas(t, 0)
	for _, at := range farPages() {
		if r.c.Has(at) {
			t.Errorf("has page %d", at)
		}
	}
}

// P8.3: Counts counts Reads alone: hits, misses, and misses that are errors.
func TestCounts(t *testing.T) {
	r := filled(t, 2)
	ok(t, r.look(t, 0, 0, 1, 0, 2, 0, 1))
	r.wantCounts(t, 3, 4)
	ok(t, r.put(t, 50, 3, 3, 4))
	r.wantCounts(t, 3, 4)
	want(t, "full", r.look(t, 0), api.ErrFull)
	want(t, "far", r.look(t, 6), api.ErrRange)
	r.wantCounts(t, 3, 6)
	ok(t, r.look(t, 3, 4), r.commit(t, 5))
	r.wantCounts(t, 5, 6)
	r.drop(t)
	r.stop(t, 0)
	want(t, "stopped", r.look(t, 0), api.ErrStopped)
	r.wantCounts(t, 5, 7)
	for range 300 {
		r.c.Read(4)
	}
	r.m.hits += 300
	r.wantCounts(t, 305, 7)
}

// P8.3: asking changes nothing.
func TestTellsApart(t *testing.T) {
	r, _ := dirtyPair(t)
	was := r.c.File().Disk().Copy()
	for range 3 {
		for at := range 8 {
			r.c.Has(at)
		}
		r.c.Counts()
		gone(r.c.Dirty())
		r.c.File()
		r.hold(t)
	}
	if !disk.Same(was, r.c.File().Disk()) {
		t.Errorf("the disk was changed")
	}
}
