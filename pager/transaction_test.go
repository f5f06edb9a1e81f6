package pager_test

import (
	"slices"
	"testing"

	"loupe/api"
	"loupe/disk"
	"loupe/file"
)

// P9.1, P9.3: a transaction of each kind of change: it is seen at once, is not in the file until it is committed, and is found when the disk is opened again.
func TestCommit(t *testing.T) {
	r := newPair(t, small, 5)
	ok(t, r.begin(t))
	r.wantTells(t, 1, 0, true)
	r.unchanged(t, func() {
		r.makes(t, 1, 2, 3)
		ok(t, r.put(t, 21, 1), r.put(t, 23, 3), r.setRoot(t, 0, 3), r.setRoot(t, 7, 2), r.setRoot(t, 15, 1), r.free(t, 2))
		r.wantTells(t, 4, 1, true)
		r.wantRead(t, 1, 21)
		r.wantBytes(t, 2, freed(0))
		r.wantRead(t, 3, 23)
	})
	r.wantZero(t, 1, zero(0, 0))
	ok(t, r.commit(t))
	r.wantTells(t, 4, 1, false)
	r.wantZero(t, 4, zero(2, 1, 3, 0, 0, 0, 0, 0, 0, 2, 0, 0, 0, 0, 0, 0, 0, 1))
	for _, r := range []*pair{r, r.again(t, 2), r.again(t, 2000)} {
		r.wantTells(t, 4, 1, false)
		r.wantRoots(t, map[int]int{0: 3, 7: 2, 15: 1})
		r.wantRead(t, 1, 21)
		r.wantBytes(t, 2, freed(0))
		r.wantRead(t, 3, 23)
		r.pages(t)
		ok(t, r.begin(t))
		r.makes(t, 2, 4)
		r.wantBytes(t, 2, noughts())
		r.wantTells(t, 5, 0, true)
	}
}

// P9.1: transactions one behind the other, the file checking in where it must.
func TestCommits(t *testing.T) {
	r := filled(t, small, 4)
	for i := range 20 {
		ok(t, r.begin(t), r.put(t, byte(30+i), 1+2*(i%2)))
		switch i % 4 {
		case 0:
			r.makes(t, 2)
		case 1:
			ok(t, r.setRoot(t, i%16, i%5), r.put(t, byte(60+i), 2))
		case 2:
			ok(t, r.free(t, 2))
		}
		ok(t, r.commit(t))
		r.again(t, 3)
		r.pages(t)
	}
	r.wantRoots(t, map[int]int{0: 1, 1: 2, 5: 0, 9: 4, 13: 3, 15: 3})
}

// P9.1: page 0, byte by byte: the numbers' four bytes, the highest first.
func TestPageZero(t *testing.T) {
	p := api.Plan{Frames: 10, Pages: 600}
	r := newPair(t, p, 600)
	for r.p.Size() < 600 {
		ok(t, r.begin(t))
		for range 9 {
			if r.p.Size() < 600 {
				r.makes(t, r.p.Size())
			}
		}
		ok(t, r.commit(t))
	}
	ok(t, r.begin(t), r.setRoot(t, 0, 0x0102), r.setRoot(t, 1, 0xff), r.setRoot(t, 14, 256), r.setRoot(t, 15, 599), r.free(t, 3, 0x203), r.commit(t))
	b := []byte("loupe001\x00\x00\x02\x03\x00\x00\x00\x02\x00\x00\x01\x02\x00\x00\x00\xff")
	b = append(b, make([]byte, 12*4)...)
	b = append(b, "\x00\x00\x01\x00\x00\x00\x02\x57"...)
	b = append(b, make([]byte, 432)...)
	r.wantZero(t, 600, b)
	got, e := r.f.Read(0x203)
	ok(t, e)
	if !slices.Equal(got, append([]byte{0, 0, 0, 3}, make([]byte, 508)...)) {
		t.Errorf("a free page is %x", got)
	}
	r.again(t, 2)
}

// P9.1: a commit of nothing writes nothing, also on a disk that has stopped, and the transaction is over.
func TestCommitNothing(t *testing.T) {
	for name, do := range map[string]func(r *pair){
		"nothing":        func(r *pair) {},
		"only told":      func(r *pair) { ok(t, r.look(t, 1, 2)); r.pages(t) },
		"roots and back": func(r *pair) { ok(t, r.setRoot(t, 0, 4), r.setRoot(t, 3, 2), r.setRoot(t, 3, 0), r.setRoot(t, 0, 1)) },
		"the same roots": func(r *pair) { ok(t, r.setRoot(t, 0, 1), r.setRoot(t, 15, 3), r.setRoot(t, 4, 0)) },
		"gone back": func(r *pair) {
			_, e := r.mark(t)
			r.makes(t, 2, 4, 5)
			ok(t, e, r.free(t, 1), r.setRoot(t, 1, 5), r.back(t, 0))
		},
		"marks":            func(r *pair) { r.mark(t); r.mark(t); ok(t, r.forget(t, 1)); r.mark(t) },
		"refused":          func(r *pair) { r.write(t, 1, nil); r.free(t, 5); r.setRoot(t, 16, 1); r.setRoot(t, 0, 5); r.back(t, 0) },
		"rolled back, too": func(r *pair) { r.makes(t, 2, 4, 5, 6); ok(t, r.put(t, 9, 6), r.rollback(t), r.begin(t)) },
	} {
		for _, stop := range []bool{false, true} {
			r := filled(t, small, 5)
			ok(t, r.begin(t))
			do(r)
			if stop {
				r.stop(t, 0)
			}
			was := r.f.Disk().Copy()
			want(t, name, r.commit(t), api.OK)
			if r.wantTells(t, 5, 2, false); !disk.Same(was, r.f.Disk()) {
				t.Errorf("%s: the disk was changed", name)
			}
		}
	}
	r := newPair(t, small, 2)
	r.stop(t, 0)
	for range 3 {
		ok(t, r.begin(t), r.commit(t))
	}
}

// committed holds that a transaction comes to the file as just these pages do, with a size.
func committed(t *testing.T, name string, room int, size int, do func(r *pair), w ...api.PageWrite) {
	t.Helper()
	r := filled(t, broad, room)
	f, e := file.Open(r.f.Disk().Copy(), broad)
	ok(t, e, f.Commit(size, w...), r.begin(t))
	do(r)
	ok(t, r.commit(t))
	if !disk.Same(f.Disk(), r.f.Disk()) {
		t.Errorf("%s: another disk", name)
	}
	r.again(t, 2)
}

// P9.1: what is committed: the pages that were written, rising, and page 0 where it is not as it ought to be, with the size.
func TestCommitWrites(t *testing.T) {
	for room := 5; room < 9; room++ {
		committed(t, "roots alone", room, 5, func(r *pair) { ok(t, r.setRoot(t, 0, 2), r.setRoot(t, 1, 4)) },
			at(0, zero(2, 2, 2, 4, 0, 0, 0, 0, 0, 0, 0, 0, 0, 0, 0, 0, 0, 3)))
		committed(t, "a page alone", room, 5, func(r *pair) { ok(t, r.put(t, 99, 3)) }, at(3, page(99)))
		committed(t, "the bytes that it has", room, 5, func(r *pair) { ok(t, r.put(t, 13, 3)) }, at(3, page(13)))
		committed(t, "two pages", room, 5, func(r *pair) { ok(t, r.put(t, 99, 3), r.put(t, 98, 1), r.put(t, 97, 3)) }, at(1, page(98)), at(3, page(97)))
		committed(t, "a free page", room, 5, func(r *pair) { r.makes(t, 2) },
			at(0, zero(4, 1, 1, 0, 0, 0, 0, 0, 0, 0, 0, 0, 0, 0, 0, 0, 0, 3)), at(2, noughts()))
		committed(t, "freed", room, 5, func(r *pair) { ok(t, r.free(t, 1)) },
			at(0, zero(1, 3, 1, 0, 0, 0, 0, 0, 0, 0, 0, 0, 0, 0, 0, 0, 0, 3)), at(1, freed(2)))
		committed(t, "made and freed", room, 5, func(r *pair) { r.makes(t, 2); ok(t, r.free(t, 2)) }, at(2, freed(4)))
		committed(t, "behind the last one", room, 6, func(r *pair) { r.makes(t, 2, 4, 5); ok(t, r.put(t, 77, 5)) },
			at(0, zero(0, 0, 1, 0, 0, 0, 0, 0, 0, 0, 0, 0, 0, 0, 0, 0, 0, 3)), at(2, noughts()), at(4, noughts()), at(5, page(77)))
		committed(t, "gone back", room, 5, func(r *pair) { ok(t, r.put(t, 50, 3)); r.mark(t); r.makes(t, 2, 4, 5); ok(t, r.back(t, 0)) }, at(3, page(50)))
	}
}

// P9.1: more dirty pages than frames, page 0 among them: ErrFull; the transaction goes on, and is committed with fewer, or rolled back.
func TestCommitFull(t *testing.T) {
	dirty := func(r *pair) {
		ok(t, r.begin(t), r.put(t, 71, 1))
		r.makes(t, 2, 4)
		r.mark(t)
		r.makes(t, 5)
	}
	r := filled(t, small, 5)
	dirty(r)
	for range 2 {
		r.unchanged(t, func() { want(t, "Commit", r.commit(t), api.ErrFull) })
		r.stop(t, 0)
	}
	r.stop(t, 999)
	r.wantTells(t, 6, 0, true)
	r.wantRead(t, 1, 71)
	want(t, "Read(3): page 0 is dirty, too", r.look(t, 3), api.ErrFull)
	want(t, "Begin", r.begin(t), api.ErrIdle)
	r.again(t, 2).wantTells(t, 5, 2, false)
	for _, end := range []func(r *pair){
		func(r *pair) { ok(t, r.rollback(t)); r.wantTells(t, 5, 2, false); r.wantRead(t, 1, 11) },
		func(r *pair) { ok(t, r.back(t, 0), r.commit(t)); r.wantTells(t, 5, 0, false); r.wantRead(t, 1, 71) },
	} {
		r := filled(t, small, 5)
		dirty(r)
		want(t, "Commit", r.commit(t), api.ErrFull)
		end(r)
		r.pages(t)
		r.again(t, 3)
	}
}

// P9.1: a page 0 that finds no room, as all others are dirty: ErrFull, or what its reading tells; the transaction goes on.
func TestCommitNoRoom(t *testing.T) {
	for room := 2; room < 5; room++ {
		r := filled(t, broad, room)
		ok(t, r.begin(t), r.put(t, 71, []int{1, 3, 2, 4}[:room]...))
		r.unchanged(t, func() { want(t, "Commit", r.commit(t), api.ErrFull) })
		r.wantTells(t, 5, 2, true)
		want(t, "Read", r.look(t, 0, 1, 3), api.ErrRange)
		r.stop(t, 0)
		want(t, "Commit, stopped", r.commit(t), api.ErrStopped)
		r.stop(t, 99)
		ok(t, r.rollback(t))
		r.wantRead(t, 1, 11)
		ok(t, r.begin(t), r.put(t, 72, 1), r.commit(t))
	}
	r := newPair(t, small, 2)
	ok(t, r.begin(t))
	r.makes(t, 1)
	ok(t, r.commit(t))
	r.wantTells(t, 2, 0, false)
}

// stopping is transactions that may be stopped in their commits: with room in the log, without it, of roots alone, with page 0 at hand and not.
func stopping(t *testing.T) map[string]func() *pair {
	begun := func(room int, look []int, do func(r *pair)) func() *pair {
		return func() *pair {
			r := filled(t, broad, room)
			ok(t, r.look(t, look...), r.begin(t))
			do(r)
			return r
		}
	}
	return map[string]func() *pair{
		"roots":                        begun(5, nil, func(r *pair) { ok(t, r.setRoot(t, 3, 4)) }),
		"roots, page 0 not at hand":    begun(2, []int{1, 2, 3}, func(r *pair) { ok(t, r.setRoot(t, 3, 4)) }),
		"a page":                       begun(3, nil, func(r *pair) { ok(t, r.put(t, 50, 3)) }),
		"all":                          begun(8, nil, func(r *pair) { r.makes(t, 2, 4, 5, 6); ok(t, r.put(t, 50, 6, 1), r.free(t, 3)) }),
		"checked in first":             begun(8, nil, func(r *pair) { checkedFirst(t, r) }),
		"behind a mark that went back": begun(5, nil, func(r *pair) { ok(t, r.put(t, 1, 1)); r.mark(t); r.makes(t, 2, 4); ok(t, r.back(t, 0), r.free(t, 3)) }),
	}
}

// checkedFirst leaves too few frames for what it does.
func checkedFirst(t *testing.T, r *pair) {
	ok(t, r.put(t, 40, 1, 3), r.setRoot(t, 5, 3), r.commit(t), r.begin(t), r.put(t, 41, 1, 3), r.commit(t), r.begin(t))
	r.makes(t, 2, 4, 5, 6)
	ok(t, r.put(t, 42, 1, 3, 5))
}

// P9.1: a disk that stops at each operation of a commit: ErrStopped; the transaction is not over, and is read; it is committed later, or goes back, or is rolled back.
func TestCommitStopped(t *testing.T) {
	ends := []func(r *pair){
		func(r *pair) { ok(t, r.commit(t)); r.again(t, 2) },
		func(r *pair) { ok(t, r.rollback(t)) }, // what was under way may be found, if the disk is opened again
		func(r *pair) { r.mark(t); ok(t, r.put(t, 90, 1), r.back(t, 0), r.commit(t)); r.again(t, 2) },
		func(r *pair) { ok(t, r.setRoot(t, 9, 2), r.put(t, 91, 2), r.commit(t)); r.again(t, 2) },
		func(r *pair) { ok(t, r.rollback(t), r.begin(t), r.put(t, 92, 3), r.commit(t)); r.again(t, 2) },
	}
	for name, begin := range stopping(t) {
		for _, end := range ends {
			e := api.ErrStopped
			for after := 0; e != api.OK; after++ {
				r := begin()
				r.stop(t, after)
				e = r.commit(t)
				r.stop(t, 999)
				if e == api.OK {
					break
				}
				want(t, name, e, api.ErrStopped)
				if !r.p.Under() {
					t.Fatalf("%s: %sis over", name, r.done)
				}
				end(r)
				r.pages(t)
			}
		}
	}
}

// P9.1: a commit that stopped, then a crash, then the disk is opened again: all that was done is there, or nothing of it.
func TestCommitCrashed(t *testing.T) {
	for name, begin := range stopping(t) {
		e := api.ErrStopped
		for after := 0; e != api.OK; after++ {
			r := begin()
			r.stop(t, after)
			e = r.commit(t)
			for _, keep := range []int{0, 1, 9, 10, 28, 99} {
				d := r.f.Disk().Copy()
				ok(t, d.Crash(after%64, slices.Repeat([]bool{true}, keep)...))
				f, opened := file.Open(d, broad)
				ok(t, opened)
				known := r.m.last
				if e == api.OK || has(t, f, r.m.now) {
					known = r.m.now
				}
				a, opened := over(t, d, broad, 2, known)
				if ok(t, opened); a != nil {
					a.done = name + ": " + r.done + a.done
					a.pages(t)
				}
			}
		}
	}
}

// has tells whether a file has all of these facts.
func has(t *testing.T, f *file.File, now facts) bool {
	t.Helper()
	b, e := f.Read(0)
	ok(t, e)
	all := f.Size() == now.size && slices.Equal(b, now.zero())
	for page, text := range now.texts {
		b, e := f.Read(page)
		ok(t, e)
		all = all && string(b) == text
	}
	return all
}

// P9.1, P9.5: what was rolled back is not seen: bytes, size, free pages, roots; nothing is written.
func TestRollback(t *testing.T) {
	for room := 5; room < 9; room++ {
		r := filled(t, broad, room)
		ok(t, r.begin(t))
		r.unchanged(t, func() {
			r.makes(t, 2, 4, 5, 6)
			if room > 5 {
				ok(t, r.put(t, 50, 1, 6), r.free(t, 1))
			}
			ok(t, r.setRoot(t, 0, 6), r.setRoot(t, 8, 2), r.rollback(t))
		})
		r.wantTells(t, 5, 2, false)
		r.wantRoots(t, map[int]int{0: 1, 15: 3})
		r.wantRead(t, 1, 11)
		r.wantBytes(t, 2, freed(4))
		r.wantBytes(t, 4, freed(0))
		r.pages(t)
		ok(t, r.begin(t))
		r.makes(t, 2, 4, 5)
		ok(t, r.commit(t), r.begin(t), r.put(t, 60, 5), r.rollback(t))
		r.wantBytes(t, 5, noughts())
		r.wantTells(t, 6, 0, false)
		r.again(t, 2)
	}
}

// P9.1: a Rollback of a new file, and of nothing; on a disk that has stopped.
func TestRollbackNothing(t *testing.T) {
	r := newPair(t, small, 3)
	ok(t, r.begin(t))
	r.makes(t, 1, 2)
	ok(t, r.setRoot(t, 0, 2), r.rollback(t))
	r.wantTells(t, 1, 0, false)
	r.wantRoots(t, nil)
	want(t, "Read(1)", r.look(t, 1), api.ErrRange)
	r.stop(t, 0)
	ok(t, r.begin(t), r.rollback(t), r.begin(t))
	r.makes(t, 1)
	ok(t, r.rollback(t))
	r.wantTells(t, 1, 0, false)
}

// P9.1 to P9.4: without a transaction each call that changes something is ErrIdle, ahead of what is wrong beside; Begin in one is.
func TestIdle(t *testing.T) {
	for _, first := range []func(r *pair){
		func(r *pair) {},
		func(r *pair) { ok(t, r.begin(t), r.put(t, 5, 1), r.commit(t)) },
		func(r *pair) { ok(t, r.begin(t), r.put(t, 5, 1)); r.mark(t); ok(t, r.rollback(t)) },
		func(r *pair) { ok(t, r.begin(t), r.commit(t)); r.stop(t, 0) },
	} {
		r := filled(t, small, 3)
		first(r)
		r.unchanged(t, func() {
			want(t, "Commit", r.commit(t), api.ErrIdle)
			want(t, "Rollback", r.rollback(t), api.ErrIdle)
			m, e := r.mark(t)
			want(t, "Mark", e, api.ErrIdle)
			at, e := r.makePage(t)
			want(t, "Make", e, api.ErrIdle)
			if m != 0 || at != 0 {
				t.Errorf("numbers beside errors: %d %d", m, at)
			}
			for _, n := range farPages() {
				want(t, "Back", r.back(t, n), api.ErrIdle)
				want(t, "Forget", r.forget(t, n), api.ErrIdle)
				want(t, "Write", r.put(t, 1, n), api.ErrIdle)
				want(t, "Write nothing", r.write(t, n, nil), api.ErrIdle)
				want(t, "Free", r.free(t, n), api.ErrIdle)
				want(t, "SetRoot", r.setRoot(t, n, 1), api.ErrIdle)
				want(t, "SetRoot of 1", r.setRoot(t, 1, n), api.ErrIdle)
			}
		})
		ok(t, r.begin(t))
		r.unchanged(t, func() {
			want(t, "Begin", r.begin(t), api.ErrIdle)
			want(t, "Begin", r.begin(t), api.ErrIdle)
		})
		r.wantTells(t, 5, 2, true)
		ok(t, r.put(t, 6, 1))
		want(t, "Begin", r.begin(t), api.ErrIdle)
		r.wantRead(t, 1, 6)
		ok(t, r.rollback(t))
	}
}
