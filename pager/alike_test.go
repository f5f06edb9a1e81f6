package pager_test

import (
	"fmt"
	"maps"
	"math/rand"
	"slices"
	"strings"
	"testing"

	"loupe/api"
	"loupe/disk"
	"loupe/file"
	"loupe/pager"
)

// used is the pages that were made, and not freed since.
func (f facts) used() []int {
	var l []int
	for at := 1; at < f.size; at++ {
		if !slices.Contains(f.free, at) {
			l = append(l, at)
		}
	}
	return l
}

// some is one of the pages that are used, or seldom one that there is not.
func (r *pair) some(rnd *rand.Rand) int {
	l := r.m.now.used()
	if len(l) == 0 || rnd.Intn(12) == 0 {
		return []int{-1, 0, r.m.now.size, r.m.now.size + 1, 1 << 40}[rnd.Intn(5)]
	}
	return l[rnd.Intn(len(l))]
}

// step does something, right or wrong, and tells how it went.
func (r *pair) step(t *testing.T, rnd *rand.Rand) api.Errno {
	t.Helper()
	switch rnd.Intn(25) {
	case 0, 1:
		return r.begin(t)
	case 2, 3:
		return r.commit(t)
	case 4:
		if rnd.Intn(2) == 0 {
			return r.rollback(t)
		}
		r.pages(t)
	case 5, 6:
		_, e := r.mark(t)
		return e
	case 7:
		return r.back(t, rnd.Intn(len(r.m.marks)+3)-1)
	case 8:
		return r.forget(t, rnd.Intn(len(r.m.marks)+3)-1)
	case 9, 10, 11:
		return r.look(t, rnd.Intn(r.m.now.size+1))
	case 12:
		return r.write(t, r.some(rnd), page(5)[:511+rnd.Intn(2)])
	case 13, 14, 15:
		return r.put(t, byte(rnd.Intn(256)), r.some(rnd))
	case 16, 17, 18, 19:
		_, e := r.makePage(t)
		return e
	case 20, 21:
		return r.free(t, r.some(rnd))
	case 22:
		return r.setRoot(t, rnd.Intn(18)-1, rnd.Intn(r.m.now.size+2)-1)
	case 23:
		return r.setRoot(t, rnd.Intn(16), rnd.Intn(r.m.now.size))
	default:
		return r.checkIn(t)
	}
	return api.OK
}

// P9.1 to P9.5: long lives of right and wrong calls, and stops that are laid and lifted, are as in the model.
func TestLives(t *testing.T) {
	errors := map[api.Errno]int{}
	for seed := range int64(150) {
		rnd := rand.New(rand.NewSource(seed))
		r := newPair(t, []api.Plan{small, broad, {Frames: 2, Pages: 12}}[seed%3], 2+rnd.Intn(8))
		r.done += fmt.Sprintf("seed %d: ", seed)
		for range 200 {
			if rnd.Intn(15) == 0 {
				r.stop(t, rnd.Intn(2)*rnd.Intn(60))
			}
			if rnd.Intn(6) == 0 {
				r.stop(t, 99999)
			}
			e := r.step(t, rnd)
			if errors[e]++; e == api.ErrFull && rnd.Intn(3) == 0 {
				ok(t, r.rollbackAny(t))
			}
		}
		r.stop(t, 99999)
		ok(t, r.rollbackAny(t))
		r.pages(t)
		ok(t, r.begin(t), r.setRoot(t, 3, r.m.now.size-1), r.setRoot(t, 4, r.m.now.size/2), r.commit(t))
		r.again(t, 2)
	}
	for _, e := range []api.Errno{api.OK, api.ErrIdle, api.ErrArg, api.ErrRange, api.ErrFull, api.ErrStopped} {
		if errors[e] < 50 {
			t.Errorf("%v was told %d times", e, errors[e])
		}
	}
}

// rollbackAny rolls back, if there is a transaction.
func (r *pair) rollbackAny(t *testing.T) api.Errno {
	t.Helper()
	if !r.p.Under() {
		return api.OK
	}
	return r.rollback(t)
}

// someCrash crashes a disk.
func someCrash(t *testing.T, rnd *rand.Rand, d *disk.Disk) {
	t.Helper()
	var keep []bool
	often := rnd.Intn(4)
	for range d.Loose() {
		keep = append(keep, rnd.Intn(4) <= often)
	}
	ok(t, d.Crash(rnd.Intn(2)*rnd.Intn(64), keep...))
}

// P9.1, P9.5: lives with stops and crashes: opened again, there is what was committed without an error, or that and the commit under way.
func TestCrashes(t *testing.T) {
	became := 0
	for seed := range int64(150) {
		rnd := rand.New(rand.NewSource(seed))
		r := newPair(t, broad, 5+rnd.Intn(4))
		for range 25 {
			r.stop(t, rnd.Intn(120))
			found := []facts{r.m.last.copied()}
			for range 40 {
				e := r.step(t, rnd)
				if !r.p.Under() {
					found[0] = r.m.last.copied()
				}
				if e == api.ErrStopped && strings.HasSuffix(r.done, "Commit; ") {
					found = append(found, r.m.now.copied())
				}
				if e == api.ErrStopped {
					break
				}
			}
			d := r.f.Disk().Copy()
			someCrash(t, rnd, d)
			f, e := file.Open(d.Copy(), broad)
			ok(t, e)
			known := found[0]
			if len(found) > 1 && !has(t, f, known) {
				known = found[1]
				became++
			}
			if !has(t, f, known) {
				t.Fatalf("seed %d: %sis none of %v", seed, r.done, found)
			}
			r, e = over(t, d, broad, 5+rnd.Intn(4), known)
			ok(t, e)
		}
	}
	if became < 10 {
		t.Errorf("%d commits under way were there", became)
	}
}

// P9.5: each page below the size, but page 0, is free, or was made and not freed since; no page is made twice without having been freed between; with marks that went back, and transactions that were rolled back, committed and opened again.
func TestMadeOnce(t *testing.T) {
	type seen struct {
		made map[int]bool
		size int
	}
	copied := func(s seen) seen { return seen{maps.Clone(s.made), s.size} }
	for seed := range int64(60) {
		rnd := rand.New(rand.NewSource(seed))
		plan := api.Plan{Frames: 40, Pages: 30}
		f, e := file.Open(newDisk(t, plan), plan)
		ok(t, e)
		p, e := pager.Open(f, 40)
		ok(t, e, p.Begin())
		now, last, marks := seen{map[int]bool{}, 1}, seen{map[int]bool{}, 1}, []seen{}
		for range 300 {
			switch n := rnd.Intn(20); {
			case n < 8:
				at, e := p.Make()
				if len(now.made) == 29 {
					want(t, "Make", e, api.ErrFull)
					break
				}
				ok(t, e)
				if now.made[at] || at < 1 || at >= 30 {
					t.Fatalf("seed %d: page %d is made twice", seed, at)
				}
				now.made[at], now.size = true, max(now.size, at+1)
				ok(t, p.Write(at, page(byte(at))))
			case n < 14 && len(now.made) > 0:
				at := slices.Sorted(maps.Keys(now.made))[rnd.Intn(len(now.made))]
				ok(t, p.Free(at))
				delete(now.made, at)
			case n < 16:
				m, e := p.Mark()
				if ok(t, e); m != len(marks) {
					t.Fatalf("mark %d", m)
				}
				marks = append(marks, copied(now))
			case n < 17 && len(marks) > 0:
				m := rnd.Intn(len(marks))
				now, marks = copied(marks[m]), marks[:m]
				ok(t, p.Back(m))
			case n < 18:
				ok(t, p.Rollback(), p.Begin())
				now, marks = copied(last), nil
			case n < 19:
				ok(t, p.Commit())
				last, marks = copied(now), nil
				if p, e = pager.Open(f, 40); rnd.Intn(2) == 0 {
					ok(t, f.CheckIn())
				}
				ok(t, e, p.Begin())
			}
			if p.Size() != now.size || p.Size()-1 != len(now.made)+p.Spare() {
				t.Fatalf("seed %d: of %d pages %d are free, %v used", seed, p.Size(), p.Spare(), now.made)
			}
			for at := range now.made {
				if b, e := p.Read(at); e != api.OK || b[0] != byte(at) {
					t.Fatalf("seed %d: page %d is %x, %v", seed, at, b, e)
				}
			}
		}
	}
}
