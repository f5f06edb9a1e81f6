package file_test

import (
	"fmt"
	"iter"
	"math/rand"
	"slices"
	"testing"

	"loupe/api"
	"loupe/disk"
	"loupe/file"
)

// kept goes over which of so many loose writes a crash keeps: all ways, if they are few; else the first ones, the last ones, one alone, all but one, and every second one.
func kept(many int) iter.Seq[[]bool] {
	return func(yield func([]bool) bool) {
		ways := []func(n, i int) bool{
			func(n, i int) bool { return i < n },
			func(n, i int) bool { return i >= n },
			func(n, i int) bool { return i == n },
			func(n, i int) bool { return i != n },
			func(n, i int) bool { return i%2 == n%2 },
		}
		turns := many + 1
		if many < 5 {
			ways, turns = []func(n, i int) bool{func(n, i int) bool { return n>>i&1 == 1 }}, 1<<many
		}
		for _, way := range ways {
			for n := range turns {
				var keep []bool
				for i := range many {
					keep = append(keep, way(n, i))
				}
				if !yield(keep) {
					return
				}
			}
		}
	}
}

// crashed goes over a disk behind these crashes, with the last write that is kept torn at the edges, and within a head.
func crashed(t *testing.T, d *disk.Disk) iter.Seq2[string, *disk.Disk] {
	return func(yield func(string, *disk.Disk) bool) {
		for keep := range kept(d.Loose()) {
			for _, tear := range []int{0, 1, 63, 27} {
				c := d.Copy()
				ok(t, c.Crash(tear, keep...))
				if !yield(fmt.Sprintf("Crash(%d, %v): ", tear, keep), c) {
					return
				}
			}
		}
	}
}

// act is a call that may stop, and what is held behind it, if it does not.
type act struct {
	call func(t *testing.T, r *pair) api.Errno
	then func(h held) held
}

// committing is a commit.
func committing(size int, w ...api.PageWrite) act {
	return act{
		func(t *testing.T, r *pair) api.Errno { return r.commit(t, size, w...) },
		func(h held) held { return h.with(size, w...) },
	}
}

// checking is a checking in.
func checking() act {
	return act{
		func(t *testing.T, r *pair) api.Errno { return r.checkIn(t) },
		func(h held) held { return h },
	}
}

// lives is what is done one behind the other: commits with room, without it, of all frames, of one page more than once; checkings in of no page, of one in more than one frame, of three.
func lives() [][]act {
	return [][]act{
		{committing(2, put(1, 1)), committing(3, put(0, 2), put(2, 3)), committing(4, put(3, 4)), committing(4, put(1, 5), put(0, 6), put(2, 7)), checking()},
		{checking(), committing(4, put(2, 1), put(2, 2), put(2, 3)), committing(0, put(2, 4)), committing(1, put(3, 5), put(2, 6)), checking(), checking()},
		{committing(4, puts(small, 3)...), checking(), committing(3, put(0, 1), put(3, 2)), committing(1, put(3, 3), put(0, 4))},
	}
}

// ahead goes over all places of these lives: the file as it is there, what it has, and the act that comes.
func ahead(t *testing.T) iter.Seq2[place, act] {
	return func(yield func(place, act) bool) {
		for _, life := range lives() {
			r, has := newPair(t, small), nothing(small)
			for _, a := range life {
				if !yield(place{r.f.Disk().Copy(), has}, a) {
					return
				}
				ok(t, a.call(t, r))
				has = a.then(has)
			}
		}
	}
}

// place is a disk, and what its file has.
type place struct {
	d   *disk.Disk
	has held
}

// stopped does an act on a copy of the disk that stops, and tells what may be found then: what was there, if it stopped, or what is there then.
func (p place) stopped(t *testing.T, after int, a act) (*pair, api.Errno, []held) {
	t.Helper()
	r, e := opened(t, p.d.Copy(), small)
	ok(t, e)
	r.stop(t, after)
	e = a.call(t, r)
	found := []held{a.then(p.has)}
	if e != api.OK {
		want(t, r.done, e, api.ErrStopped)
		found = append(found, p.has)
	}
	return r, e, found
}

// wantFound holds that a disk, opened, has one of what may be found, and tells which.
func wantFound(t *testing.T, name string, d *disk.Disk, found ...held) place {
	t.Helper()
	f, e := file.Open(d, small)
	ok(t, e)
	got := has(t, f)
	if !slices.ContainsFunc(found, got.same) {
		t.Fatalf("%shas %v, none of %v", name, got, found)
	}
	return place{d, got}
}

// P7.4: a commit, one that checks in first, and a checking in, that stop at each operation; then crashes; then the disk is opened again.
func TestCrashes(t *testing.T) {
	for p, a := range ahead(t) {
		e := api.ErrStopped
		for after := 0; e != api.OK; after++ {
			var r *pair
			var found []held
			r, e, found = p.stopped(t, after, a)
			for crash, d := range crashed(t, r.f.Disk()) {
				wantFound(t, r.done+crash, d, found...)
			}
		}
	}
}

// P7.4: all that a commit writes is there behind a crash as soon as it is told without an error.
func TestCommitted(t *testing.T) {
	for p, a := range ahead(t) {
		r, e, found := p.stopped(t, 999, a)
		ok(t, e)
		if r.f.Disk().Loose() != 0 || len(found) != 1 {
			t.Errorf("%sleaves %d loose", r.done, r.f.Disk().Loose())
		}
		ok(t, r.f.Disk().Crash(0))
		wantFound(t, r.done, r.f.Disk(), found...)
	}
}

// P7.4: what a stopped call left behind comes in no way of the next one, that stops, too.
func TestCrashesTwice(t *testing.T) {
	next := []act{checking(), committing(3, put(3, 200), put(1, 201), put(0, 202)), committing(2, put(2, 203))}
	for p, a := range ahead(t) {
		for after := 0; after < 40; after += 9 {
			r, _, found := p.stopped(t, after, a)
			for _, keep := range []int{0, 1, 9, 40} {
				d := r.f.Disk().Copy()
				ok(t, d.Crash(keep, slices.Repeat([]bool{true}, keep)...))
				p := wantFound(t, r.done, d, found...)
				for i, a := range next {
					for after := i; after < 42; after += 5 {
						r, _, found := p.stopped(t, after, a)
						for _, keep := range []int{0, 1, 8, 27} {
							d := r.f.Disk().Copy()
							ok(t, d.Crash(7*keep%64, slices.Repeat([]bool{true}, keep)...))
							wantFound(t, r.done, d, found...)
						}
					}
				}
			}
		}
	}
}

// P7.4: a stop and a crash in opening the disk again, behind those of a call.
func TestCrashesOfOpeningAgain(t *testing.T) {
	for p, a := range ahead(t) {
		for after := range 42 {
			r, _, found := p.stopped(t, after, a)
			for _, keep := range []int{0, 1, 5, 40} {
				d := r.f.Disk().Copy()
				ok(t, d.Crash(keep, slices.Repeat([]bool{true}, keep)...), d.Stop(0))
				_, e := opened(t, d, small)
				want(t, r.done+"Stop(0); Open", e, api.ErrStopped)
				for crash, d := range crashed(t, d) {
					wantFound(t, r.done+crash, d, found...)
				}
				ok(t, d.Stop(1))
				_, e = opened(t, d, small)
				want(t, r.done+"Stop(1); Open", e, api.OK)
			}
		}
	}
}

// P7.1, P7.4: a stop at each operation of opening a disk that is not formatted, then crashes, then it is opened again, and goes on.
func TestCrashesOfOpening(t *testing.T) {
	filled := newDisk(t, small)
	wanted := nothing(small)
	for at := range 4 {
		ok(t, write(filled, home(small, at), page(byte(at))))
		wanted = wanted.with(0, put(at, byte(at)))
	}
	for at := range home(small, 0) {
		ok(t, filled.Write(at, page(200)[:64]))
	}
	ok(t, filled.Sync())
	for _, p := range []place{{newDisk(t, small), nothing(small)}, {filled, wanted}} {
		for after := range 4 {
			d := p.d.Copy()
			ok(t, d.Stop(after))
			_, e := opened(t, d, small)
			want(t, fmt.Sprintf("Stop(%d)", after), e, map[bool]api.Errno{true: api.ErrStopped}[after < 3])
			for crash, d := range crashed(t, d) {
				ok(t, d.Stop(after))
				_, e := opened(t, d, small)
				if e != api.OK {
					want(t, crash, e, api.ErrStopped)
				}
				for twice, d := range crashed(t, d) {
					p := wantFound(t, crash+twice, d, p.has)
					a := committing(3, put(1, 77), put(0, 78))
					r, e, found := p.stopped(t, 99, a)
					ok(t, e)
					wantFound(t, crash+twice, r.f.Disk(), found...)
				}
			}
		}
	}
}

// P7.2, P7.4: a file that goes on by a new stop, without being opened again, is as it was, or as it became.
func TestGoesOn(t *testing.T) {
	for p, a := range ahead(t) {
		for after := range 42 {
			r, e, found := p.stopped(t, after, a)
			r.stop(t, 999)
			now := p.has
			if e == api.OK {
				now = found[0]
			}
			if got := has(t, r.f); !got.same(now) {
				t.Fatalf("%shas %v, not %v", r.done, got, now)
			}
			next := committing(4, put(3, 90), put(2, 91))
			ok(t, r.checkIn(t), next.call(t, r), r.f.Disk().Crash(0))
			wantFound(t, r.done, r.f.Disk(), next.then(now))
		}
	}
}

// someAct is something that is done to a file, right or wrong, and whether it is right.
func someAct(r *rand.Rand) (act, bool) {
	if r.Intn(5) == 0 {
		return checking(), true
	}
	var w []api.PageWrite
	for range r.Intn(5) {
		w = append(w, put(r.Intn(41)/10, byte(r.Intn(256))))
	}
	size := r.Intn(5) + r.Intn(20)/19
	right := len(w) > 0 && len(w) < 4 && size < 5
	for _, p := range w {
		right = right && p.Page < 4
	}
	return committing(size, w...), right
}

// someCrash crashes a disk.
func someCrash(t *testing.T, r *rand.Rand, d *disk.Disk) {
	t.Helper()
	var keep []bool
	often := r.Intn(4)
	for range d.Loose() + r.Intn(2) {
		keep = append(keep, r.Intn(4) <= often)
	}
	ok(t, d.Crash(r.Intn(64)*r.Intn(2), keep...))
}

// P7.1 to P7.4: long lives of calls, stops and crashes are as in the model, and nothing that was committed is lost.
func TestLives(t *testing.T) {
	for seed := range int64(40) {
		r := rand.New(rand.NewSource(seed))
		p := place{newDisk(t, small), nothing(small)}
		for range 30 {
			f, e := opened(t, p.d, small)
			ok(t, e)
			f.done = fmt.Sprintf("seed %d: ", seed)
			f.stop(t, r.Intn(150))
			e = api.OK
			found := []held{p.has}
			for turn := 0; turn < 12 && e != api.ErrStopped; turn++ {
				a, right := someAct(r)
				e = a.call(t, f)
				if right != (e == api.OK || e == api.ErrStopped) {
					t.Fatalf("%sis %v, right %v", f.done, e, right)
				}
				if e == api.OK {
					found[0] = a.then(found[0])
				}
				if e == api.ErrStopped {
					found = append(found, a.then(found[0]))
				}
			}
			someCrash(t, r, p.d)
			if r.Intn(4) == 0 {
				ok(t, p.d.Stop(0))
				_, e := opened(t, p.d, small)
				want(t, "Open", e, api.ErrStopped)
				someCrash(t, r, p.d)
			}
			p = wantFound(t, f.done, p.d, found...)
		}
	}
}
