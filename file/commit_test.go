package file_test

import (
	"bytes"
	"fmt"
	"math"
	"slices"
	"testing"

	"loupe/api"
	"loupe/disk"
	"loupe/file"
	"loupe/frame"
	"loupe/wal"
)

// The chapter's example.
func TestExample(t *testing.T) {
	p := api.Plan{Frames: 2, Pages: 3}
	d := newDisk(t, p)
	f, e := file.Open(d, p)
	ok(t, e, f.Commit(3, put(0, 1)))
	l, e := wal.Open(d.Copy(), p)
	ok(t, e)
	if frames, _ := l.Many(); frames != 1 || l.Epoch() != 1 {
		t.Errorf("%d frames, epoch %d", frames, l.Epoch())
	}
	ok(t, f.Commit(3, put(1, 2), put(2, 3)))
	l, e = wal.Open(d.Copy(), p)
	ok(t, e)
	if frames, _ := l.Many(); frames != 2 || l.Epoch() != 2 {
		t.Errorf("not checked in first: %d frames, epoch %d", frames, l.Epoch())
	}
	wantRead(t, "page 0", f, 0, page(1))
	want(t, "three pages", f.Commit(3, put(0, 4), put(1, 5), put(2, 6)), api.ErrFull)
}

// P7.2: ordinary commits and checkings in, each held against the model, and what was committed is read behind each.
func TestCommits(t *testing.T) {
	for _, p := range []api.Plan{{Frames: 1, Pages: 1}, {Frames: 1, Pages: 5}, small, {Frames: 7, Pages: 3}, {Frames: 9, Pages: 40}} {
		r := newPair(t, p)
		kept := nothing(p)
		hold := func() {
			t.Helper()
			if got := has(t, r.f); !got.same(kept) {
				t.Fatalf("%shas %v, not %v", r.done, got, kept)
			}
		}
		for i := range 40 {
			w := []api.PageWrite{}
			for n := range 1 + i%p.Frames {
				w = append(w, put((i*7+n*3)%p.Pages, byte(i+50*n)))
			}
			ok(t, r.commit(t, i%(p.Pages+1), w...))
			kept = kept.with(i%(p.Pages+1), w...)
			hold()
			for range i % 5 / 3 {
				ok(t, r.checkIn(t))
				hold()
			}
		}
	}
}

// sectorsHold holds a disk against heads, frames and pages that are laid by layer 5.
func sectorsHold(t *testing.T, name string, d *disk.Disk, heads [2]api.Head, frames []api.Frame, pages map[int][]byte) {
	t.Helper()
	other := newDisk(t, small)
	for at, h := range heads {
		if h != (api.Head{}) {
			b, e := frame.EncodeHead(h)
			ok(t, e, other.Write(at, b))
		}
	}
	for i, f := range frames {
		b, e := frame.Encode(f)
		ok(t, e, write(other, 2+9*i, b))
	}
	for at, b := range pages {
		ok(t, write(other, 2+27+8*at, b))
	}
	ok(t, other.Sync())
	if !disk.Same(d, other) {
		t.Errorf("%s: another disk", name)
	}
}

// P7.2: all that is on the disk behind commits and checkings in, sector by sector.
func TestSectors(t *testing.T) {
	f, e := file.Open(newDisk(t, small), small)
	ok(t, e)
	hold := func(name string, zero, one api.Head, l []api.Frame, pages map[int][]byte) {
		t.Helper()
		sectorsHold(t, name, f.Disk(), [2]api.Head{zero, one}, l, pages)
	}
	behind := func(f api.Frame) uint32 { s, _ := frame.Sum(f); return s }
	a := api.Frame{Epoch: 1, Page: 2, Commit: true, Size: 3, Bytes: page(1)}
	b := api.Frame{Epoch: 1, Index: 1, Page: 0, Link: behind(a), Bytes: page(2)}
	c := api.Frame{Epoch: 1, Index: 2, Page: 2, Commit: true, Size: 4, Link: behind(b), Bytes: page(3)}
	z := api.Frame{Epoch: 2, Page: 1, Commit: true, Size: 1, Bytes: page(4)}
	ok(t, f.Commit(3, put(2, 1)))
	hold("a page", api.Head{Serial: 2, Epoch: 1, Count: 1}, api.Head{Serial: 1, Epoch: 1}, []api.Frame{a}, nil)
	ok(t, f.Commit(4, put(0, 2), put(2, 3)))
	hold("just the room", api.Head{Serial: 2, Epoch: 1, Count: 1}, api.Head{Serial: 3, Epoch: 1, Size: 3, Count: 3}, []api.Frame{a, b, c}, nil)
	ok(t, f.Commit(1, put(1, 4)))
	hold("checked in first", api.Head{Serial: 4, Epoch: 2, Size: 4}, api.Head{Serial: 5, Epoch: 2, Size: 4, Count: 1}, []api.Frame{z, b, c}, map[int][]byte{0: page(2), 2: page(3)})
	ok(t, f.CheckIn())
	hold("checked in", api.Head{Serial: 6, Epoch: 3, Size: 1}, api.Head{Serial: 5, Epoch: 2, Size: 4, Count: 1}, []api.Frame{z, b, c}, map[int][]byte{0: page(2), 1: page(4), 2: page(3)})
	ok(t, f.CheckIn())
	hold("checked in again", api.Head{Serial: 6, Epoch: 3, Size: 1}, api.Head{Serial: 7, Epoch: 4, Size: 1}, []api.Frame{z, b, c}, map[int][]byte{0: page(2), 1: page(4), 2: page(3)})
}

// P7.2: what each operation of checking in does: pages rise, each from its first sector on, then the disk is synced, then the log is reset.
func TestCheckInOperations(t *testing.T) {
	head, e := frame.EncodeHead(api.Head{Serial: 4, Epoch: 2, Size: 4})
	ok(t, e)
	for after := range 20 {
		r := newPair(t, small)
		ok(t, r.commit(t, 4, put(3, 1), put(1, 2)), r.commit(t, 4, put(3, 3)))
		other := r.f.Disk().Copy()
		r.stop(t, after)
		want(t, fmt.Sprintf("Stop(%d)", after), r.checkIn(t), map[bool]api.Errno{false: api.ErrStopped}[after >= 19])
		for n := range min(after, 16) {
			at, b := 2+27+8*1+n, page(2)
			if n >= 8 {
				at, b = 2+27+8*3+n-8, page(3)
			}
			ok(t, other.Write(at, b[n%8*64:n%8*64+64]))
		}
		if after > 16 {
			ok(t, other.Sync())
		}
		if after > 17 {
			ok(t, other.Write(0, head))
		}
		if after > 18 {
			ok(t, other.Sync())
		}
		left := r.f.Disk().Copy()
		if left.Loose() != other.Loose() || left.Stopped() != (after <= 19) {
			t.Errorf("Stop(%d): %d loose, not %d; stopped %v", after, left.Loose(), other.Loose(), left.Stopped())
		}
		for keep := range other.Loose() + 1 {
			l, o := left.Copy(), other.Copy()
			ok(t, l.Crash(9, slices.Repeat([]bool{true}, keep)...), o.Crash(9, slices.Repeat([]bool{true}, keep)...))
			if !disk.Same(l, o) {
				t.Errorf("Stop(%d): another disk, when %d are kept", after, keep)
			}
		}
	}
}

// P7.2: checking in with no frame that counts, and with a page in more than one.
func TestCheckInEdges(t *testing.T) {
	r := newPair(t, small)
	for range 3 {
		ok(t, r.checkIn(t))
		if got := has(t, r.f); !got.same(nothing(small)) {
			t.Errorf("none: has %v", got)
		}
	}
	kept := nothing(small).with(2, put(1, 3), put(3, 2))
	ok(t, r.commit(t, 2, put(1, 1), put(3, 2), put(1, 3)))
	for range 3 {
		ok(t, r.checkIn(t))
		if got := has(t, r.f); !got.same(kept) {
			t.Errorf("a page twice: has %v", got)
		}
	}
	ok(t, r.commit(t, 4, put(1, 4)), r.commit(t, 0, put(1, 5)), r.commit(t, 1, put(1, 6)), r.checkIn(t))
	if got := has(t, r.f); !got.same(kept.with(1, put(1, 6))) {
		t.Errorf("a page in three commits: has %v", got)
	}
}

// epoch tells how often a file was checked in, and how many frames count.
func epoch(t *testing.T, f *file.File) (many, frames int) {
	t.Helper()
	l, e := wal.Open(f.Disk().Copy(), f.Plan())
	ok(t, e)
	frames, _ = l.Many()
	return int(l.Epoch()) - 1, frames
}

// P7.2: a commit for which there is just the room, one for which there is not, one for which there is none at all.
func TestRoom(t *testing.T) {
	for frames := 1; frames < 6; frames++ {
		p := api.Plan{Frames: frames, Pages: 3}
		for first := 0; first <= frames; first++ {
			for many := 1; many < frames+4; many++ {
				r := newPair(t, p)
				kept := nothing(p)
				if first > 0 {
					ok(t, r.commit(t, 1, puts(p, first)...))
					kept = kept.with(1, puts(p, first)...)
				}
				was := r.f.Disk().Copy()
				e := r.commit(t, 2, puts(p, many)...)
				times, counting := epoch(t, r.f)
				switch {
				case many > frames:
					want(t, r.done, e, api.ErrFull)
					if !disk.Same(was, r.f.Disk()) || counting != first {
						t.Errorf("%schanges the disk", r.done)
					}
				case first+many > frames:
					ok(t, e)
					kept = kept.with(2, puts(p, many)...)
					if times != 1 || counting != many {
						t.Errorf("%sis checked in %d times, %d frames", r.done, times, counting)
					}
				default:
					ok(t, e)
					kept = kept.with(2, puts(p, many)...)
					if times != 0 || counting != first+many {
						t.Errorf("%sis checked in %d times, %d frames", r.done, times, counting)
					}
				}
				if got := has(t, r.f); !got.same(kept) {
					t.Errorf("%shas %v, not %v", r.done, got, kept)
				}
			}
		}
	}
}

// P7.2: a greatest plan, filled twice.
func TestGreatest(t *testing.T) {
	p := api.Plan{Frames: 2000, Pages: 2000}
	f, e := file.Open(newDisk(t, p), p)
	ok(t, e)
	w := puts(p, 2000)
	ok(t, f.Commit(7, w[:1999]...), f.Commit(2000, put(1, 1), put(1999, 2)), f.Commit(2000, w...))
	want(t, "one more", f.Commit(2000, append(w, put(0, 1))...), api.ErrFull)
	ok(t, f.CheckIn())
	f, e = file.Open(f.Disk(), p)
	ok(t, e)
	if got := has(t, f); !got.same(nothing(p).with(2000, w...)) {
		t.Errorf("another file")
	}
}

// wrongs is commits that may not be, each with a name.
func wrongs(p api.Plan) map[string]func(*file.File) api.Errno {
	commit := func(size int, w ...api.PageWrite) func(*file.File) api.Errno {
		return func(f *file.File) api.Errno { return f.Commit(size, w...) }
	}
	with := func(w api.PageWrite) []api.PageWrite { return append(puts(p, p.Frames), w) }
	l := map[string]func(*file.File) api.Errno{
		"no pages":                 commit(1),
		"no pages, empty":          commit(0, []api.PageWrite{}...),
		"no pages, size -1":        commit(-1),
		"too many, page -1":        commit(1, with(put(-1, 1))...),
		"too many, page behind":    commit(1, with(put(p.Pages, 1))...),
		"too many, no bytes":       commit(1, with(api.PageWrite{})...),
		"too many, size -1":        commit(-1, puts(p, p.Frames+1)...),
		"too many, beyond Pages":   commit(p.Pages+1, puts(p, p.Frames+1)...),
		"all frames, size -1":      commit(-1, puts(p, p.Frames)...),
		"all frames, beyond Pages": commit(p.Pages+1, puts(p, p.Frames)...),
	}
	for _, size := range []int{-1, -2, p.Pages + 1, 2000, 2001, math.MinInt, math.MaxInt} {
		l[fmt.Sprintf("size %d", size)] = commit(size, put(0, 1))
	}
	for _, at := range farPages() {
		l[fmt.Sprintf("page %d", at)] = commit(1, put(at, 1))
		l[fmt.Sprintf("page %d behind", at)] = commit(1, put(0, 1), put(at, 1))
	}
	for _, many := range []int{0, 1, 64, 511, 513, 1024} {
		w := api.PageWrite{Page: 1, Bytes: make([]byte, many)}
		l[fmt.Sprintf("%d bytes", many)] = commit(1, w)
		l[fmt.Sprintf("%d bytes behind", many)] = commit(1, put(0, 1), w)
		l[fmt.Sprintf("%d bytes ahead", many)] = commit(1, w, put(0, 1))
	}
	return l
}

// P7.2: what is wrong is refused, ahead of what is too much and of a disk that has stopped, and changes nothing: it is not checked in.
func TestWrong(t *testing.T) {
	for first := range 4 {
		for _, stopped := range []bool{false, true} {
			r := newPair(t, small)
			if first > 0 {
				ok(t, r.commit(t, 2, puts(small, first)...))
			}
			if stopped {
				r.stop(t, 0)
			}
			was := r.f.Disk().Copy()
			for name, do := range wrongs(small) {
				want(t, name, do(r.f), api.ErrArg)
			}
			for many := 4; many < 7; many++ {
				want(t, "too many", r.f.Commit(4, puts(small, many)...), api.ErrFull)
			}
			if !disk.Same(was, r.f.Disk()) {
				t.Errorf("what is refused changed the disk")
			}
			r.hold(t)
		}
	}
}

// P7.2: a disk that has stopped refuses what is right, and what may be read stays.
func TestStopped(t *testing.T) {
	for first := range 4 {
		r := newPair(t, small)
		if first > 0 {
			ok(t, r.commit(t, 2, puts(small, first)...))
		}
		kept := has(t, r.f)
		r.stop(t, 0)
		for many := 1; many < 4; many++ {
			want(t, "Commit", r.commit(t, 4, puts(small, many)...), api.ErrStopped)
		}
		want(t, "CheckIn", r.checkIn(t), api.ErrStopped)
		r.stop(t, 99)
		if got := has(t, r.f); !got.same(kept) {
			t.Errorf("has %v, not %v", got, kept)
		}
		ok(t, r.commit(t, 4, puts(small, 3)...), r.checkIn(t))
		if got := has(t, r.f); !got.same(kept.with(4, puts(small, 3)...)) {
			t.Errorf("goes on: has %v", got)
		}
	}
}

// P7.2: a commit that stops behind its checking in: the file is as it was, and the log empty.
func TestStoppedBehindCheckIn(t *testing.T) {
	for after := range 60 {
		r := newPair(t, small)
		ok(t, r.commit(t, 2, put(0, 1), put(3, 2)))
		kept := has(t, r.f)
		r.stop(t, after)
		e := r.commit(t, 4, put(3, 3), put(2, 4))
		many := r.f.Disk().Loose()
		r.stop(t, 99)
		if e == api.OK {
			if after != 40 || many != 0 {
				t.Errorf("Stop(%d): committed, %d loose", after, many)
			}
			return
		}
		want(t, r.done, e, api.ErrStopped)
		if got := has(t, r.f); !got.same(kept) {
			t.Errorf("%shas %v, not %v", r.done, got, kept)
		}
		times, frames := epoch(t, r.f)
		if ahead, headed := after < 18, after == 39; ahead != (times == 0) || (ahead || headed) != (frames == 2) {
			t.Errorf("%schecked in %d times, %d frames", r.done, times, frames)
		}
	}
	t.Errorf("never committed")
}

// P7.2: what is handed in is not changed, and not kept; room behind it is not written to.
func TestHandedIn(t *testing.T) {
	r := newPair(t, small)
	kept := nothing(small)
	for i := range 5 {
		var w []api.PageWrite
		for at := range 3 {
			b := append(page(byte(40*at+i)), bytes.Repeat([]byte{77}, 300)...)
			w = append(w, api.PageWrite{Page: at, Bytes: b[:512]})
		}
		all := append(w, put(3, 9), put(2, 8))
		own := slices.Clone(all)
		kept = kept.with(i%5, w...)
		ok(t, r.commit(t, i%5, all[:3]...))
		if i%2 == 1 {
			ok(t, r.checkIn(t))
		}
		for at, p := range all {
			if p.Page != own[at].Page || &p.Bytes[0] != &own[at].Bytes[0] {
				t.Errorf("the list was changed")
			}
		}
		for at, p := range w {
			if whole := p.Bytes[:812]; !bytes.Equal(whole[:512], page(byte(40*at+i))) || !bytes.Equal(whole[512:], bytes.Repeat([]byte{77}, 300)) {
				t.Errorf("page %d was changed", at)
			}
			clear(p.Bytes)
		}
		clear(all)
		if got := has(t, r.f); !got.same(kept) {
			t.Errorf("what was handed in is kept: has %v, not %v", got, kept)
		}
	}
}

// P7.1: each answer of Read is new memory.
func TestReadApart(t *testing.T) {
	r := newPair(t, small)
	ok(t, r.commit(t, 3, put(0, 1)), r.checkIn(t), r.commit(t, 4, put(1, 2)))
	kept := has(t, r.f)
	for at := range 4 {
		for range 2 {
			one, e := r.f.Read(at)
			other, otherE := r.f.Read(at)
			ok(t, e, otherE)
			clear(one)
			_ = append(one, bytes.Repeat([]byte{5}, 600)...)
			if string(other) != kept.pages[at] {
				t.Errorf("page %d: two answers share their bytes", at)
			}
		}
	}
	r.hold(t)
	if got := has(t, r.f); !got.same(kept) {
		t.Errorf("spoilt: has %v", got)
	}
}

// P7.2: a commit with a page more than once: the last one is told.
func TestPageTwice(t *testing.T) {
	r := newPair(t, small)
	ok(t, r.commit(t, 2, put(1, 1), put(1, 2), put(1, 3)))
	wantRead(t, "thrice", r.f, 1, page(3))
	ok(t, r.commit(t, 2, put(1, 4), put(1, 1)))
	wantRead(t, "checked in first", r.f, 1, page(1))
	r, e := opened(t, r.f.Disk(), small)
	ok(t, e, r.checkIn(t))
	wantRead(t, "checked in", r.f, 1, page(1))
}
