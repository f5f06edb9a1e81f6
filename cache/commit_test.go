package cache_test

import (
	"math"
	"slices"
	"testing"

	"loupe/api"
	"loupe/cache"
	"loupe/disk"
	"loupe/file"
)

// wrongSizes is sizes that the small plan has not.
func wrongSizes() []int {
	return []int{-1, 7, -2, 8, 2000, 2001, 1 << 32, -1 << 32, math.MinInt, math.MaxInt}
}

// fileHas is what a file has: its pages' bytes.
func fileHas(t *testing.T, f *file.File) []string {
	t.Helper()
	var l []string
	for at := range f.Plan().Pages {
		b, e := f.Read(at)
		ok(t, e)
		l = append(l, string(b))
	}
	return l
}

// with is pages, with others in their places.
func with(l []string, w ...api.PageWrite) []string {
	l = slices.Clone(l)
	for _, p := range w {
		l[p.Page] = string(p.Bytes)
	}
	return l
}

// wantFile holds what a file has: a size, and pages.
func wantFile(t *testing.T, name string, f *file.File, size int, l []string) {
	t.Helper()
	if got := fileHas(t, f); f.Size() != size || !slices.Equal(got, l) {
		t.Fatalf("%s: the file has size %d, %v, not %d, %v", name, f.Size(), first(got), size, first(l))
	}
}

// first is the first bytes of pages.
func first(l []string) []byte {
	var b []byte
	for _, text := range l {
		b = append(b, text[0])
	}
	return b
}

// P8.2: the dirty pages come to the file, with the size, and are clean and at hand then; clean ones don't come.
func TestCommit(t *testing.T) {
	for size := range 7 {
		r := filled(t, 4)
		was := fileHas(t, r.c.File())
		ok(t, r.put(t, 50, 4), r.look(t, 1), r.put(t, 51, 0), r.put(t, 52, 2))
		wantFile(t, "not committed", r.c.File(), 5, was)
		ok(t, r.commit(t, size))
		wantFile(t, r.done, r.c.File(), size, with(was, put(4, 50), put(0, 51), put(2, 52)))
		r.wantDirty(t)
		r.wantHas(t, 0, 1, 2, 4)
		r.wantCounts(t, 0, 1)
		f, e := file.Open(r.c.File().Disk(), small)
		ok(t, e)
		wantFile(t, "opened again", f, size, with(was, put(4, 50), put(0, 51), put(2, 52)))
		r.wantRead(t, 0, 51)
	}
}

// P8.2: the pages are committed rising, whatever the order of their Writes: frame by frame the disk is as behind such a commit.
func TestCommitRising(t *testing.T) {
	for _, order := range [][]int{{0, 1, 2, 3}, {3, 2, 1, 0}, {2, 0, 3, 1}, {5, 0, 4, 1}, {1, 5, 3, 5, 1}, {4}} {
		d := newDisk(t, small)
		r := over(t, d.Copy(), small, 6)
		f, e := file.Open(d, small)
		ok(t, e)
		for i, at := range order {
			ok(t, r.put(t, byte(10*at), at), r.look(t, order[i/2]))
		}
		var w []api.PageWrite
		for at := range 6 {
			if slices.Contains(order, at) {
				w = append(w, put(at, byte(10*at)))
			}
		}
		ok(t, r.commit(t, 6), f.Commit(6, w...))
		if !disk.Same(d, r.c.File().Disk()) {
			t.Errorf("%v: another disk", order)
		}
	}
}

// P8.2: commits one behind the other: each of the pages that were written since; the file checks in where it must.
func TestCommitAgain(t *testing.T) {
	r := filled(t, 3)
	was := fileHas(t, r.c.File())
	for i := range 20 {
		a, b := i%6, i*5%6
		ok(t, r.put(t, byte(100+i), a), r.put(t, byte(150+i), b), r.commit(t, i%7))
		was = with(was, put(a, byte(100+i)), put(b, byte(150+i)))
		wantFile(t, r.done, r.c.File(), i%7, was)
		r.wantDirty(t)
		ok(t, r.commit(t, i%7))
	}
}

// P8.2: a page that was committed is clean: it goes for another one, and is dirty again by a Write alone.
func TestCommitClean(t *testing.T) {
	r := filled(t, 2)
	ok(t, r.put(t, 50, 0), r.put(t, 51, 1))
	want(t, "full", r.look(t, 2), api.ErrFull)
	ok(t, r.commit(t, 5), r.look(t, 2))
	r.wantHas(t, 1, 2)
	r.wantRead(t, 0, 50)
	r.wantHas(t, 0, 2)
	ok(t, r.put(t, 52, 0))
	r.wantDirty(t, put(0, 52))
}

// P8.2: without any dirty page, and the file's size: just OK, whatever is at hand, also of a disk that has stopped.
func TestCommitNothing(t *testing.T) {
	for _, pages := range [][]int{{}, {0}, {3, 4}, {1, 0}, {0, 1, 2}} {
		r := filled(t, 2)
		ok(t, r.look(t, pages...))
		hits, misses := r.c.Counts()
		was := r.c.File().Disk().Copy()
		for range 2 {
			ok(t, r.commit(t, 5))
			r.wantCounts(t, hits, misses)
			if !disk.Same(was, r.c.File().Disk()) {
				t.Errorf("the disk was changed")
			}
			r.stop(t, 0)
			was = r.c.File().Disk().Copy()
		}
		for at := range 6 {
			if is := slices.Contains(pages[max(0, len(pages)-2):], at); is != r.c.Has(at) {
				t.Errorf("%shas page %d: %v", r.done, at, !is)
			}
		}
	}
	r := newPair(t, small, 2)
	ok(t, r.commit(t, 0))
	r.wantCounts(t, 0, 0)
	r.wantHas(t)
}

// P8.2: without any dirty page, and another size: page 0 is read, a miss, and committed; it is at hand then, and clean.
func TestCommitSizeMiss(t *testing.T) {
	for _, size := range []int{0, 1, 4, 6} {
		r := filled(t, 2)
		was := fileHas(t, r.c.File())
		ok(t, r.commit(t, size))
		wantFile(t, r.done, r.c.File(), size, was)
		r.wantCounts(t, 0, 1)
		r.wantHas(t, 0)
		r.wantDirty(t)
		ok(t, r.commit(t, size))
		r.wantCounts(t, 0, 1)
	}
	r := filled(t, 2)
	ok(t, r.look(t, 3, 4, 3), r.commit(t, 6))
	r.wantHas(t, 0, 3)
	r.wantCounts(t, 1, 3)
	ok(t, r.look(t, 5))
	r.wantHas(t, 0, 5)
}

// P8.2: with page 0 at hand it is a hit, and a use; what is committed is what was at hand.
func TestCommitSizeHit(t *testing.T) {
	r := filled(t, 2)
	was := fileHas(t, r.c.File())
	ok(t, r.look(t, 0, 1), r.commit(t, 6))
	wantFile(t, r.done, r.c.File(), 6, was)
	r.wantCounts(t, 1, 2)
	ok(t, r.look(t, 2))
	r.wantHas(t, 0, 2)
	ok(t, r.put(t, 50, 0), r.commit(t, 6), r.commit(t, 3))
	wantFile(t, r.done, r.c.File(), 3, with(was, put(0, 50)))
	r.wantCounts(t, 2, 3)
}

// P8.2: a size alone is a commit of page 0: the disk is as behind that.
func TestCommitSizeDisk(t *testing.T) {
	r := filled(t, 2)
	f, e := file.Open(r.c.File().Disk().Copy(), small)
	ok(t, e, r.commit(t, 2), f.Commit(2, put(0, 10)))
	if !disk.Same(f.Disk(), r.c.File().Disk()) {
		t.Errorf("another disk")
	}
}

// P8.2: dirty pages without room for a clean one are committed, with a size of their own: page 0 is not read then.
func TestCommitCrowded(t *testing.T) {
	r := filled(t, 2)
	was := fileHas(t, r.c.File())
	ok(t, r.put(t, 50, 3, 4), r.commit(t, 6))
	wantFile(t, r.done, r.c.File(), 6, with(was, put(3, 50), put(4, 50)))
	r.wantHas(t, 3, 4)
	r.wantCounts(t, 0, 0)
}

// P8.2: a size that may not be: ErrArg; dirty pages stay so, and nothing comes to the file.
func TestCommitWrongSize(t *testing.T) {
	for many := 1; many < 7; many++ {
		r := filled(t, 6)
		was := r.c.File().Disk().Copy()
		for at := range many {
			ok(t, r.put(t, byte(50+at), at))
		}
		for range 2 {
			for _, size := range wrongSizes() {
				want(t, "Commit", r.commit(t, size), api.ErrArg)
			}
			if l := gone(r.c.Dirty()); len(l) != many || !disk.Same(was, r.c.File().Disk()) {
				t.Errorf("%d dirty, not %d", len(l), many)
			}
			r.stop(t, 0)
			was = r.c.File().Disk().Copy()
		}
		r.wantCounts(t, 0, 0)
	}
}

// P8.2: the same without any dirty page: page 0 is read first, so what comes of that comes ahead of the size.
func TestCommitWrongSizeAlone(t *testing.T) {
	for _, size := range wrongSizes() {
		r := filled(t, 2)
		ok(t, r.look(t, 1, 2))
		was := r.c.File().Disk().Copy()
		want(t, "Commit", r.commit(t, size), api.ErrArg)
		r.wantHas(t, 0, 2)
		r.wantCounts(t, 0, 3)
		want(t, "Commit", r.commit(t, size), api.ErrArg)
		r.wantCounts(t, 1, 3)
		if r.wantDirty(t); !disk.Same(was, r.c.File().Disk()) {
			t.Errorf("the disk was changed")
		}
		r.stop(t, 0)
		want(t, "Commit, stopped, page 0 at hand", r.commit(t, size), api.ErrArg)
		ok(t, r.look(t, 3, 4))
		want(t, "Commit, stopped, page 0 not at hand", r.commit(t, size), api.ErrStopped)
		r.wantHas(t, 3, 4)
	}
}

// P8.2: more dirty pages than the log has frames: ErrFull, behind a wrong size, ahead of a disk that has stopped; they stay dirty.
func TestCommitFull(t *testing.T) {
	for many := 4; many < 7; many++ {
		r := filled(t, 6)
		was := fileHas(t, r.c.File())
		var w []api.PageWrite
		for at := range many {
			ok(t, r.put(t, byte(50+at), at))
			w = append(w, put(at, byte(50+at)))
		}
		if many == 4 {
			ok(t, r.commit(t, 6))
			wantFile(t, r.done, r.c.File(), 6, with(was, w...))
			continue
		}
		for range 2 {
			want(t, "Commit", r.commit(t, 6), api.ErrFull)
			want(t, "Commit(-1)", r.commit(t, -1), api.ErrArg)
			r.wantDirty(t, w...)
			r.stop(t, 0)
		}
		r.stop(t, 99)
		wantFile(t, r.done, r.c.File(), 5, was)
		r.drop(t)
		ok(t, r.put(t, 90, 5), r.commit(t, 6))
		wantFile(t, r.done, r.c.File(), 6, with(was, put(5, 90)))
	}
}

// stopping is a cache with pages that are dirty, at a commit that may stop: with room in the log and without it, of one page and of all frames, and of a size alone.
func stopping(t *testing.T) map[string]func() *pair {
	with := func(room int, clean []int, dirty ...int) func() *pair {
		return func() *pair {
			r := filled(t, room)
			ok(t, r.look(t, clean...))
			for _, at := range dirty {
				ok(t, r.put(t, byte(50+at), at))
			}
			return r
		}
	}
	return map[string]func() *pair{
		"one page":                    with(2, nil, 4),
		"two pages, checked in first": with(2, nil, 0, 5),
		"all frames":                  with(6, []int{0, 1}, 1, 2, 3, 5),
		"a size, page 0 at hand":      with(2, []int{1, 0}),
		"a size, page 0 not at hand":  with(2, []int{1, 5}),
	}
}

// P8.2: a disk that stops at each operation of a commit: ErrStopped, the pages stay dirty and are read; the file is as it was; the next commit takes them again.
func TestCommitStopped(t *testing.T) {
	for name, begin := range stopping(t) {
		e := api.ErrStopped
		for after := 0; e != api.OK; after++ {
			r := begin()
			was, dirty := fileHas(t, r.c.File()), r.m.dirty()
			r.stop(t, after)
			e = r.commit(t, 2)
			if e != api.OK {
				want(t, name, e, api.ErrStopped)
				if l := gone(r.c.Dirty()); !slices.Equal(l, dirty) {
					t.Fatalf("%s: %s%v are dirty, not %v", name, r.done, l, dirty)
				}
				for _, s := range dirty {
					r.wantRead(t, s.page, byte(50+s.page))
				}
			}
			r.stop(t, 999)
			var w []api.PageWrite
			for _, s := range dirty {
				w = append(w, put(s.page, byte(50+s.page)))
			}
			if e != api.OK {
				wantFile(t, name, r.c.File(), 5, was)
				ok(t, r.commit(t, 3), r.commit(t, 2))
			}
			wantFile(t, name, r.c.File(), 2, with(was, w...))
			r.wantDirty(t)
			if e == api.OK && after < 11 {
				t.Errorf("%s: %d operations are enough", name, after)
			}
		}
	}
}

// P8.2: a commit that stopped, then a crash, then the disk is opened again: all of its pages are there, or none.
func TestCommitCrashed(t *testing.T) {
	for name, begin := range stopping(t) {
		e := api.ErrStopped
		for after := 0; e != api.OK; after++ {
			r := begin()
			was := fileHas(t, r.c.File())
			var w []api.PageWrite
			for _, s := range r.m.dirty() {
				w = append(w, put(s.page, byte(50+s.page)))
			}
			r.stop(t, after)
			e = r.commit(t, 2)
			for _, keep := range []int{0, 1, 9, 99} {
				d := r.c.File().Disk().Copy()
				ok(t, d.Crash(after%64, slices.Repeat([]bool{true}, keep)...))
				f, opened := file.Open(d, small)
				ok(t, opened)
				wanted := was
				if f.Size() == 2 {
					wanted = with(was, w...)
				}
				if size := f.Size(); size != 2 && (size != 5 || e == api.OK) {
					t.Errorf("%s: %ssize %d", name, r.done, size)
				}
				wantFile(t, name, f, f.Size(), wanted)
			}
		}
	}
}

// P8.2: a size alone with a disk that has stopped: reading page 0 is a miss, a hit, or one of the log; then the commit stops.
func TestCommitSizeStopped(t *testing.T) {
	r := filled(t, 2)
	ok(t, r.look(t, 3, 4))
	r.stop(t, 0)
	want(t, "not at hand", r.commit(t, 6), api.ErrStopped)
	r.wantHas(t, 3, 4)
	r.wantCounts(t, 0, 3)
	r = filled(t, 2)
	ok(t, r.look(t, 0, 4))
	r.stop(t, 0)
	want(t, "at hand", r.commit(t, 6), api.ErrStopped)
	r.wantCounts(t, 1, 2)
	r.wantDirty(t)
	ok(t, r.look(t, 5))
	r.wantHas(t, 0, 5)
	r = filled(t, 2)
	ok(t, r.put(t, 50, 0), r.commit(t, 5), r.look(t, 3, 4))
	r.stop(t, 0)
	want(t, "in the log", r.commit(t, 6), api.ErrStopped)
	r.wantHas(t, 0, 4)
	r.wantRead(t, 0, 50)
}

// P8.2: dirty pages go by Drop, clean ones stay; what is read then is the file's, a miss.
func TestDrop(t *testing.T) {
	r := filled(t, 4)
	was := r.c.File().Disk().Copy()
	ok(t, r.look(t, 1, 2, 3), r.put(t, 50, 2), r.put(t, 51, 0))
	r.drop(t)
	r.wantHas(t, 1, 3)
	r.wantDirty(t)
	r.wantCounts(t, 0, 3)
	if !disk.Same(was, r.c.File().Disk()) {
		t.Errorf("the disk was changed")
	}
	r.wantRead(t, 2, 12)
	r.wantRead(t, 0, 10)
	r.wantRead(t, 1, 11)
	r.wantCounts(t, 1, 5)
	r.drop(t)
	r.wantHas(t, 0, 1, 2, 3)
	ok(t, r.commit(t, 5))
	r.wantCounts(t, 1, 5)
}

// P8.2: what was committed is not dropped; what was written behind is.
func TestDropCommitted(t *testing.T) {
	r := filled(t, 3)
	ok(t, r.put(t, 50, 0), r.put(t, 51, 1), r.commit(t, 5), r.put(t, 52, 1))
	r.drop(t)
	r.wantHas(t, 0)
	r.wantRead(t, 0, 50)
	r.wantRead(t, 1, 51)
	r.stop(t, 0)
	ok(t, r.put(t, 53, 0))
	want(t, "stopped", r.commit(t, 5), api.ErrStopped)
	r.drop(t)
	r.wantHas(t, 1)
	r.wantRead(t, 0, 50) // the log's
}

// P8.2: Drop makes room again; nothing at hand; a disk that has stopped.
func TestDropRoom(t *testing.T) {
	r := filled(t, 2)
	r.drop(t)
	ok(t, r.put(t, 50, 0, 1))
	want(t, "full", r.look(t, 2), api.ErrFull)
	r.stop(t, 0)
	r.drop(t)
	r.wantHas(t)
	ok(t, r.put(t, 50, 2, 3))
	r.drop(t)
	want(t, "Read", r.look(t, 2), api.ErrStopped)
	r.stop(t, 1)
	ok(t, r.look(t, 2, 3, 4))
	r.wantHas(t, 3, 4)
}

// P8.2: two caches over one file: each has its own pages at hand, and commits its own.
func TestTwoCaches(t *testing.T) {
	r := filled(t, 2)
	f := r.c.File()
	was := fileHas(t, f)
	other, e := cache.New(f, 2)
	ok(t, e, r.c.Write(0, page(50)), other.Write(1, page(51)), r.c.Commit(4))
	if other.Has(0) || r.c.Has(1) || len(gone(other.Dirty())) != 1 || other.File() != f {
		t.Errorf("two caches share their pages")
	}
	wantFile(t, "the first one", f, 4, with(was, put(0, 50)))
	ok(t, other.Commit(3))
	wantFile(t, "the other one", f, 3, with(was, put(0, 50), put(1, 51)))
}
