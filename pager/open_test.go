package pager_test

import (
	"fmt"
	"math"
	"slices"
	"testing"

	"loupe/api"
	"loupe/disk"
	"loupe/file"
	"loupe/pager"
)

// P9.1 to P9.4: the example of the chapter.
func TestExample(t *testing.T) {
	r := newPair(t, api.Plan{Frames: 3, Pages: 4}, 4)
	ok(t, r.begin(t))
	r.makes(t, 1, 2)
	ok(t, r.free(t, 1))
	r.makes(t, 1, 3)
	_, e := r.makePage(t)
	want(t, "Make", e, api.ErrFull)
	r.wantTells(t, 4, 0, true)
	ok(t, r.setRoot(t, 0, 1))
	want(t, "Commit", r.commit(t), api.ErrFull)
	r.wantTells(t, 4, 0, true)
}

// P9.1: a file of size 0: page 0, without free pages and roots, is committed with size 1, whatever the file's pages had.
func TestOpenNew(t *testing.T) {
	for _, room := range []int{2, 3, 600, 1999, 2000} {
		for name, f := range map[string]*file.File{
			"new":         laid(t, 0, at(6, page(6))),
			"other bytes": laid(t, 0, at(0, page(5)), at(1, page(6))),
			"a page 0":    laid(t, 0, at(0, zero(3, 2, 1, 2))),
			"broken":      laid(t, 0, at(0, zero(9999, 1))),
		} {
			was, e := file.Open(f.Disk().Copy(), small)
			ok(t, e, was.Commit(1, at(0, zero(0, 0))))
			p, e := pager.Open(f, room)
			if ok(t, e); p.Size() != 1 || p.Spare() != 0 || p.Under() {
				t.Errorf("%s: tells %d %d %v", name, p.Size(), p.Spare(), p.Under())
			}
			for i := range 16 {
				root, e := p.Root(i)
				if ok(t, e); root != 0 {
					t.Errorf("%s: root %d is %d", name, i, root)
				}
			}
			wantZero(t, name, f, 1, zero(0, 0))
			if l := gone(p.Pages()); len(l) != 0 || !disk.Same(was.Disk(), f.Disk()) {
				t.Errorf("%s: another file, %v", name, l)
			}
		}
	}
}

// P9.1: a file of another size: its page 0 tells all; nothing is written.
func TestOpenFound(t *testing.T) {
	roots := []int{0, 5, 1, 2, 3, 4, 5, 0, 1, 2, 3, 4, 5, 1, 2, 4}
	for _, w := range []struct {
		size, first, many int
		roots             []int
	}{
		{1, 0, 0, nil},
		{2, 1, 1, nil},
		{6, 0, 0, roots},
		{6, 5, 3, roots},
		{6, 1, 5, slices.Repeat([]int{5}, 16)},
		{7, 6, 1, slices.Repeat([]int{6}, 16)},
		{7, 3, 0, roots},
		{7, 0, 4, roots},
		{7, 2, math.MaxUint32, roots},
	} {
		f := laid(t, w.size, at(0, zero(w.first, w.many, w.roots...)), at(1, freed(0)))
		was := f.Disk().Copy()
		p, e := pager.Open(f, 2)
		ok(t, e)
		if p.Size() != w.size || p.Spare() != w.many || p.Under() || !disk.Same(was, f.Disk()) {
			t.Errorf("%v: tells %d %d %v", w, p.Size(), p.Spare(), p.Under())
		}
		for i, root := range w.roots {
			got, e := p.Root(i)
			if ok(t, e); got != root {
				t.Errorf("%v: root %d is %d", w, i, got)
			}
		}
		if l := gone(p.Pages()); len(l) != w.size-1 {
			t.Errorf("%v: goes over %v", w, l)
		}
	}
}

// refused holds that a file is refused, and not changed.
func refused(t *testing.T, name string, f *file.File, room int, wanted api.Errno) {
	t.Helper()
	was := f.Disk().Copy()
	p, e := pager.Open(f, room)
	want(t, name, e, wanted)
	if p != nil || !disk.Same(was, f.Disk()) {
		t.Errorf("%s: a pager beside an error, or another disk", name)
	}
}

// P9.1: a page 0 that is none's: each of the first eight bytes, and of the noughts, being another one.
func TestOpenBroken(t *testing.T) {
	for i := range 512 {
		if i >= 8 && i < 80 {
			continue
		}
		for _, by := range []byte{1, 0x80, 0xff} {
			b := zero(2, 1, 3, 4)
			b[i] ^= by
			refused(t, fmt.Sprintf("byte %d", i), laid(t, 5, at(0, b)), 2, api.ErrBroken)
		}
	}
	for _, size := range []int{1, 4, 7} {
		refused(t, "noughts", laid(t, size, at(0, noughts())), 2, api.ErrBroken)
		refused(t, "a free page", laid(t, size, at(0, freed(1))), 2, api.ErrBroken)
		refused(t, "other bytes", laid(t, size, at(0, page(1))), 2, api.ErrBroken)
	}
	for _, begin := range []string{"loupe000", "loupe002", "LOUPE001", "\x00loupe001", "loupe01\x00", " oupe001"} {
		b := zero(0, 0)
		copy(b, begin)
		refused(t, begin, laid(t, 3, at(0, b)), 2, api.ErrBroken)
	}
}

// P9.1: a first free page, and each root, that is not below the file's size; whatever the plan has.
func TestOpenBeyond(t *testing.T) {
	for size := 1; size < 8; size++ {
		for _, beyond := range []int{size, size + 1, 7, 2000, 1 << 31, math.MaxUint32} {
			for _, many := range []int{0, 1, 3} {
				refused(t, fmt.Sprintf("size %d, first %d", size, beyond), laid(t, size, at(0, zero(beyond, many))), 2, api.ErrBroken)
			}
			for i := range 16 {
				roots := make([]int, 16)
				roots[i] = beyond
				refused(t, fmt.Sprintf("size %d, root %d", size, i), laid(t, size, at(0, zero(0, 0, roots...))), 2, api.ErrBroken)
			}
		}
	}
}

// P9.1: no file ahead of a room that may not be, that ahead of what the disk and the file have.
func TestOpenRefused(t *testing.T) {
	rooms := []int{1, 0, -1, -2, 2001, 2002, 40000, 1<<32 + 2, math.MinInt, math.MaxInt}
	for name, f := range map[string]*file.File{
		"new":    laid(t, 0, at(0, noughts())),
		"found":  laid(t, 2, at(0, zero(0, 0))),
		"broken": laid(t, 2, at(0, noughts())),
	} {
		for range 2 {
			for _, room := range rooms {
				refused(t, fmt.Sprintf("%s, room %d", name, room), f, room, api.ErrArg)
			}
			ok(t, f.Disk().Stop(0))
		}
		refused(t, name+", stopped", f, 2, api.ErrStopped)
	}
	for _, room := range append(rooms, 2, 2000) {
		for _, f := range []*file.File{nil, {}} {
			p, e := pager.Open(f, room)
			want(t, "no file", e, api.ErrNil)
			if p != nil {
				t.Errorf("a pager of no file")
			}
		}
	}
}

// P9.1: a disk that stops at each operation of opening a new file: ErrStopped; the file may be opened later, and so may the disk behind a crash.
func TestOpenStopped(t *testing.T) {
	e := api.ErrStopped
	after := 0
	for ; e != api.OK; after++ {
		f := laid(t, 0, at(3, page(3)))
		ok(t, f.Disk().Stop(after))
		p, got := pager.Open(f, 2)
		if e = got; e != api.OK {
			want(t, "Open", e, api.ErrStopped)
			if p != nil {
				t.Fatalf("a pager beside an error")
			}
		}
		for _, keep := range []int{0, 1, 5, 9, 10, 99} {
			d := f.Disk().Copy()
			ok(t, d.Crash(after%64, slices.Repeat([]bool{true}, keep)...))
			crashed, e := file.Open(d, small)
			ok(t, e)
			p, e := pager.Open(crashed, 2)
			if ok(t, e); p.Size() != 1 || p.Spare() != 0 {
				t.Errorf("after %d: tells %d %d", after, p.Size(), p.Spare())
			}
			wantZero(t, "crashed", crashed, 1, zero(0, 0))
		}
		ok(t, f.Disk().Stop(99))
		p, e := pager.Open(f, 2)
		if ok(t, e); p.Size() != 1 {
			t.Errorf("after %d: size %d", after, p.Size())
		}
		wantZero(t, "later", f, 1, zero(0, 0))
	}
	if after != 13 {
		t.Errorf("%d operations are enough", after-1)
	}
}

// P9.1: of a disk that has stopped page 0 is read where the log has it; then what it has counts.
func TestOpenStoppedFound(t *testing.T) {
	for name, w := range map[string]struct {
		b []byte
		e api.Errno
	}{"right": {zero(0, 0, 1, 2), api.OK}, "broken": {noughts(), api.ErrBroken}} {
		f, e := file.Open(newDisk(t, small), small)
		ok(t, e, f.Commit(4, at(0, w.b)), f.Disk().Stop(0))
		p, e := pager.Open(f, 2)
		want(t, name+", in the log", e, w.e)
		if is := p != nil; is != (w.e == api.OK) || is && p.Size() != 4 {
			t.Errorf("%s: size %d", name, p.Size())
		}
		ok(t, f.Disk().Stop(99), f.CheckIn(), f.Disk().Stop(0))
		refused(t, name+", in its sectors", f, 2, api.ErrStopped)
	}
}

// nones is pagers that are none.
func nones() []*pager.Pager { return []*pager.Pager{nil, {}} }

// P9.1 to P9.4: no pager: ErrNil ahead of all else, zero answers, and an iterator that tells nothing.
func TestNone(t *testing.T) {
	none, e := pager.Open(nil, 2)
	want(t, "Open", e, api.ErrNil)
	for _, p := range append(nones(), none) {
		for name, e := range map[string]api.Errno{
			"Begin": p.Begin(), "Commit": p.Commit(), "Rollback": p.Rollback(),
		} {
			want(t, name, e, api.ErrNil)
		}
		for _, n := range farPages() {
			m, e := p.Mark()
			want(t, "Mark", e, api.ErrNil)
			want(t, "Back", p.Back(n), api.ErrNil)
			want(t, "Forget", p.Forget(n), api.ErrNil)
			b, e := p.Read(n)
			want(t, "Read", e, api.ErrNil)
			want(t, "Write", p.Write(n, page(1)), api.ErrNil)
			want(t, "Write nothing", p.Write(n, nil), api.ErrNil)
			at, e := p.Make()
			want(t, "Make", e, api.ErrNil)
			want(t, "Free", p.Free(n), api.ErrNil)
			root, e := p.Root(n)
			want(t, "Root", e, api.ErrNil)
			want(t, "SetRoot", p.SetRoot(n, n), api.ErrNil)
			if m != 0 || b != nil || at != 0 || root != 0 {
				t.Errorf("none tells %d %v %d %d", m, b, at, root)
			}
		}
		all := p.Pages()
		if p.Size() != 0 || p.Spare() != 0 || p.Under() || all == nil || len(gone(all)) != 0 {
			t.Errorf("none tells %d %d %v", p.Size(), p.Spare(), p.Under())
		}
	}
}

// farPages is pages that no plan has, and a few that some have.
func farPages() []int {
	return []int{-1, 0, 1, 15, 16, -2, 1999, 2000, 2001, 1 << 32, 1<<32 + 1, -1 << 32, 1<<61 + 1, math.MinInt, math.MaxInt}
}
