package wal_test

import (
	"fmt"
	"math/rand"
	"slices"
	"testing"

	"loupe/api"
	"loupe/disk"
	"loupe/wal"
)

// keeps is which of so many loose writes a crash keeps: none, all, and all but one, the first ones, the last ones, each alone, every second one; of few, all ways.
func keeps(many int) [][]bool {
	if many <= 5 {
		var l [][]bool
		for way := range 1 << many {
			keep := make([]bool, many)
			for i := range keep {
				keep[i] = way>>i&1 == 1
			}
			l = append(l, keep)
		}
		return l
	}
	var l [][]bool
	add := func(is func(i int) bool) {
		keep := make([]bool, many)
		for i := range keep {
			keep[i] = is(i)
		}
		l = append(l, keep)
	}
	for n := range many + 1 {
		add(func(i int) bool { return i < n })
		add(func(i int) bool { return i >= n })
		add(func(i int) bool { return i == n })
		add(func(i int) bool { return i != n })
	}
	add(func(i int) bool { return i%2 == 0 })
	add(func(i int) bool { return i%2 == 1 })
	return l
}

// tears is where the last one is torn: the edges, and ones within a head's parts and at their ends.
func tears() []int { return []int{0, 1, 63, 7, 24, 27, 28, 29, 55} }

// crashes goes over a disk behind all of these crashes.
func crashes(t *testing.T, d *disk.Disk, each func(name string, d *disk.Disk)) {
	t.Helper()
	for _, keep := range keeps(d.Loose()) {
		for _, tear := range tears() {
			c := d.Copy()
			if e := c.Crash(tear, keep...); e != api.OK {
				t.Fatalf("Crash(%d, %v) is %v", tear, keep, e)
			}
			each(fmt.Sprintf("Crash(%d, %v): ", tear, keep), c)
		}
	}
}

// scene is a call that may stop, and what is done ahead of it.
type scene struct {
	ahead []func(*pair) api.Errno
	call  func(*pair) api.Errno
}

// scenes is appends and resets at all places of a few lives of a log.
func scenes(t *testing.T) []scene {
	appends := func(size int, w ...api.PageWrite) func(*pair) api.Errno {
		return func(r *pair) api.Errno { return r.append(t, size, w...) }
	}
	reset := func(r *pair) api.Errno { return r.reset(t) }
	lives := [][]func(*pair) api.Errno{
		{appends(2, put(1, 1)), appends(3, put(0, 2), put(2, 3)), appends(4, put(1, 4)), reset, appends(1, put(0, 5)), appends(2, put(0, 6), put(0, 7))},
		{reset, reset, appends(4, put(3, 1), put(2, 2), put(1, 3), put(0, 4)), reset, appends(0, put(3, 5)), reset},
		{appends(2, many(5)...), reset, appends(2, many(5)...), reset, appends(3, many(4)...), appends(3, put(1, 1))},
	}
	var l []scene
	for _, life := range lives {
		for i, call := range life {
			l = append(l, scene{life[:i], call})
		}
	}
	return l
}

// wantFound holds that a disk, opened, tells one of the states that are allowed.
func wantFound(t *testing.T, name string, d *disk.Disk, allowed ...state) {
	t.Helper()
	r, e := opened(t, d, small)
	if e != api.OK || !slices.ContainsFunc(allowed, told(r.l).same) {
		t.Fatalf("%stells %v, %v, none of %v", name, told(r.l), e, allowed)
	}
}

// fresh is a disk behind a crash that keeps nothing, opened.
func fresh(t *testing.T, d *disk.Disk) pair {
	t.Helper()
	c := d.Copy()
	ok(t, c.Crash(0))
	r, e := opened(t, c, small)
	ok(t, e)
	return r
}

// stopped does a call that may stop, and tells which states may be found then: that behind it, or, if it stopped, that ahead of it, too.
func stopped(t *testing.T, r *pair, call func(*pair) api.Errno) (api.Errno, []state) {
	t.Helper()
	was, whole := told(r.l), fresh(t, r.l.Disk())
	e, wholeE := call(r), call(&whole)
	if e == api.ErrStopped {
		return e, []state{was, told(whole.l)}
	}
	want(t, r.done, e, wholeE)
	return e, []state{told(whole.l)}
}

// P6.3: an append or a reset that stops at each of its operations, then crashes, then the disk is opened again.
func TestCrashes(t *testing.T) {
	for _, s := range scenes(t) {
		e := api.ErrStopped
		for after := 0; e != api.OK; after++ {
			r := newPair(t, small)
			for _, do := range s.ahead {
				ok(t, do(&r))
			}
			r.stop(t, after)
			var found []state
			e, found = stopped(t, &r, s.call)
			crashes(t, r.l.Disk(), func(name string, d *disk.Disk) { wantFound(t, r.done+name, d, found...) })
		}
	}
}

// P6.3: what an append that stopped left behind comes in no way of the calls that follow.
func TestCrashesTwice(t *testing.T) {
	calls := []func(*pair) api.Errno{
		func(r *pair) api.Errno { return r.append(t, 4, put(3, 90), put(2, 91)) },
		func(r *pair) api.Errno { return r.append(t, 1, put(0, 92)) },
		func(r *pair) api.Errno { return r.reset(t) },
	}
	first := func(many int) []bool { return slices.Repeat([]bool{true}, many) }
	for after := 0; after < 22; after += 3 {
		r := newPair(t, small)
		ok(t, r.append(t, 2, put(1, 1)))
		r.stop(t, after)
		_ = r.append(t, 3, put(2, 2), put(0, 3))
		for _, keep := range [][]bool{nil, {true}, {false, true}, first(9), first(18)} {
			d := r.l.Disk().Copy()
			ok(t, d.Crash(0, keep...))
			for _, call := range calls {
				e := api.ErrStopped
				for after := 0; e != api.OK; after++ {
					again, openE := opened(t, d.Copy(), small)
					ok(t, openE)
					again.stop(t, after)
					var found []state
					e, found = stopped(t, &again, call)
					for _, keep := range [][]bool{nil, {true}, first(9), first(18)} {
						for _, tear := range []int{0, 1, 63} {
							c := again.l.Disk().Copy()
							ok(t, c.Crash(tear, keep...))
							wantFound(t, again.done, c, found...)
						}
					}
				}
			}
		}
	}
}

// disksToFormat is disks without a good head.
func disksToFormat(t *testing.T) map[string]*disk.Disk {
	l := map[string]*disk.Disk{"new": newDisk(t, small), "filled": newDisk(t, small), "heads in the wrong sectors": newDisk(t, small), "frames without a head": newDisk(t, small)}
	lay(t, l["filled"], 0, slices.Repeat([]byte{255}, 64*sectorsOf(small)))
	lay(t, l["heads in the wrong sectors"], 0, slices.Concat(layHead(api.Head{Serial: 9, Epoch: 1}), layHead(api.Head{Serial: 8, Epoch: 1})))
	for i, f := range chain(1, 2, 3, 4) {
		b, _ := layFrame(f)
		lay(t, l["frames without a head"], 2+9*i, b)
	}
	return l
}

// P6.1, P6.3: a stop at each operation of opening, then crashes, then it is opened again.
func TestCrashesOfOpen(t *testing.T) {
	for name, d := range disksToFormat(t) {
		for after := range 5 {
			c := d.Copy()
			ok(t, c.Stop(after))
			r, e := opened(t, c, small)
			if wanted := after > 2; wanted != (e == api.OK) || !wanted && e != api.ErrStopped {
				t.Errorf("%s, Stop(%d): Open is %v", name, after, e)
			}
			if e == api.OK {
				wantState(t, name, r.l, state{epoch: 1})
			}
			if c.Stopped() != (after < 3) {
				t.Errorf("%s, Stop(%d): stopped %v", name, after, c.Stopped())
			}
			crashes(t, c, func(crash string, c *disk.Disk) {
				wantFound(t, name+crash, c, state{epoch: 1})
				r, e := opened(t, c, small)
				ok(t, e, r.append(t, 2, put(1, 1)))
				wantState(t, name+crash, r.l, state{2, 1, 1, map[int][]byte{1: page(1)}})
			})
		}
	}
}

// P6.3: a head that was torn takes nothing of what counted, whichever sector it has.
func TestTornHeads(t *testing.T) {
	for used := range 4 {
		r := newPair(t, small)
		for i := range used {
			ok(t, r.append(t, i, put(i, byte(i))))
		}
		was := told(r.l)
		r.stop(t, 11)
		want(t, "Append", r.append(t, 4, put(3, 99)), api.ErrStopped)
		full := state{4, used + 1, 1, map[int][]byte{3: page(99)}}
		for at, b := range was.pages {
			full.pages[at] = b
		}
		for tear := range 64 {
			c := r.l.Disk().Copy()
			ok(t, c.Crash(tear, true))
			if tear == 0 || tear >= 56 { // the noughts at a head's end were there already
				wantFound(t, fmt.Sprintf("torn at %d: ", tear), c, full)
			} else {
				wantFound(t, fmt.Sprintf("torn at %d: ", tear), c, was, full)
			}
		}
	}
}

// someCall is something that is done to a log, right or wrong.
func someCall(t *testing.T, r *rand.Rand) func(*pair) api.Errno {
	if r.Intn(6) == 0 {
		return func(p *pair) api.Errno { return p.reset(t) }
	}
	var w []api.PageWrite
	for range r.Intn(5) {
		w = append(w, put(r.Intn(40)/9, byte(r.Intn(256))))
	}
	size := r.Intn(12)/2 - r.Intn(30)/29
	return func(p *pair) api.Errno { return p.append(t, size, w...) }
}

// someCrash is a disk behind a crash.
func someCrash(t *testing.T, r *rand.Rand, d *disk.Disk) *disk.Disk {
	t.Helper()
	c := d.Copy()
	keep := make([]bool, c.Loose()+r.Intn(2))
	often := r.Intn(4)
	for i := range keep {
		keep[i] = r.Intn(4) <= often
	}
	ok(t, c.Crash(r.Intn(64)*r.Intn(2), keep...))
	return c
}

// P6.1, P6.2, P6.3: long lives of calls, stops and crashes are as in the model, and nothing that was appended is lost.
func TestLives(t *testing.T) {
	for seed := range int64(60) {
		r := rand.New(rand.NewSource(seed))
		p := newPair(t, small)
		for range 120 {
			p.done = fmt.Sprintf("seed %d: ", seed)
			if r.Intn(2) == 0 {
				p.stop(t, r.Intn(30))
			}
			e, found := stopped(t, &p, someCall(t, r))
			if e == api.ErrStopped || r.Intn(5) == 0 {
				d := someCrash(t, r, p.l.Disk())
				wantFound(t, p.done, d.Copy(), found...)
				p, _ = opened(t, d, small)
			}
		}
	}
}

// P6.3: two logs in a row on one disk are one.
func TestOneBehindTheOther(t *testing.T) {
	d := newDisk(t, small)
	for i := range 5 {
		l, e := wal.Open(d, small)
		ok(t, e, l.Append(i, put(i%4, byte(i))))
	}
	l, e := wal.Open(d, small)
	ok(t, e)
	wantState(t, "five", l, state{4, 5, 1, map[int][]byte{0: page(4), 1: page(1), 2: page(2), 3: page(3)}})
}
