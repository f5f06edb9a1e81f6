package pager_test

import (
	"math"
	"math/rand"
	"slices"
	"testing"

	"loupe/api"
)

// marks makes so many marks, and holds their numbers.
func (r *pair) marksFrom(t *testing.T, numbers ...int) {
	t.Helper()
	for _, n := range numbers {
		if got, e := r.mark(t); got != n || e != api.OK {
			t.Fatalf("%sis %d, %v, not %d", r.done, got, e, n)
		}
	}
}

// wrongMarks is numbers of which there is no mark, where there are so many.
func wrongMarks(many int) []int {
	return []int{-1, many, many + 1, -2, many + 100, 1 << 32, -1 << 32, math.MinInt, math.MaxInt}
}

// P9.2: a mark's number is how many marks there were; going back to one, and forgetting one, takes it and those behind it.
func TestMarkNumbers(t *testing.T) {
	r := filled(t, small, 4)
	ok(t, r.begin(t))
	r.marksFrom(t, 0, 1, 2, 3)
	ok(t, r.forget(t, 3))
	r.marksFrom(t, 3)
	ok(t, r.back(t, 3))
	r.marksFrom(t, 3, 4, 5)
	ok(t, r.forget(t, 2))
	want(t, "gone", r.back(t, 2), api.ErrArg)
	r.marksFrom(t, 2, 3)
	ok(t, r.back(t, 1))
	want(t, "gone", r.forget(t, 1), api.ErrArg)
	r.marksFrom(t, 1)
	ok(t, r.back(t, 0))
	want(t, "gone", r.back(t, 0), api.ErrArg)
	r.marksFrom(t, 0)
	ok(t, r.forget(t, 0))
	want(t, "gone", r.forget(t, 0), api.ErrArg)
	r.marksFrom(t, 0)
}

// P9.2: a mark that there is not: ErrArg, and nothing changes.
func TestMarkWrong(t *testing.T) {
	for many := range 4 {
		r := filled(t, small, 4)
		ok(t, r.begin(t))
		for n := range many {
			r.marksFrom(t, n)
			ok(t, r.put(t, byte(n), 1))
		}
		r.unchanged(t, func() {
			for _, n := range wrongMarks(many) {
				want(t, "Back", r.back(t, n), api.ErrArg)
				want(t, "Forget", r.forget(t, n), api.ErrArg)
			}
			r.look(t, 1)
		})
		r.marksFrom(t, many)
		ok(t, r.back(t, many))
	}
}

// change does something of each kind, other things at each turn.
func (r *pair) change(t *testing.T, turn int) {
	t.Helper()
	ok(t, r.put(t, byte(100+turn), 1+2*(turn%2)))
	if turn%3 < 2 {
		_, e := r.makePage(t)
		ok(t, e)
	} else {
		ok(t, r.free(t, r.p.Size()-1))
	}
	ok(t, r.setRoot(t, turn, r.p.Size()-1), r.setRoot(t, 15, turn%4))
}

// P9.2, P9.5: marks in marks: going back to each of them brings back bytes, size, free pages and roots; those ahead of it stay, and may be gone back to.
func TestBack(t *testing.T) {
	for to := range 5 {
		for then := range to + 1 {
			r := filled(t, broad, 8)
			ok(t, r.begin(t))
			for n := range 5 {
				r.change(t, 2*n)
				r.marksFrom(t, n)
				r.change(t, 2*n+1)
			}
			ok(t, r.back(t, to))
			r.pages(t)
			want(t, "gone", r.back(t, to), api.ErrArg)
			if then < to {
				ok(t, r.back(t, then))
				r.pages(t)
			}
			r.change(t, 3)
			ok(t, r.commit(t))
			r.again(t, 3)
			r.pages(t)
		}
	}
}

// P9.2: going back to a mark: each thing by itself.
func TestBackEach(t *testing.T) {
	for name, do := range map[string]func(r *pair){
		"bytes that were clean": func(r *pair) { ok(t, r.put(t, 50, 3)) },
		"bytes that were dirty": func(r *pair) { ok(t, r.put(t, 51, 1)) },
		"a page that was free":  func(r *pair) { r.makes(t, 4) },
		"one behind the last":   func(r *pair) { r.makes(t, 4, 5, 6) },
		"freed":                 func(r *pair) { ok(t, r.free(t, 3)) },
		"freed, dirty":          func(r *pair) { ok(t, r.free(t, 1, 2)) },
		"roots":                 func(r *pair) { ok(t, r.setRoot(t, 0, 0), r.setRoot(t, 5, 2), r.setRoot(t, 15, 1)) },
		"nothing":               func(r *pair) {},
	} {
		r := filled(t, broad, 8)
		ok(t, r.begin(t), r.put(t, 40, 1))
		r.makes(t, 2)
		ok(t, r.setRoot(t, 5, 4))
		r.marksFrom(t, 0)
		do(r)
		r.done += name + "; "
		r.unchanged(t, func() { ok(t, r.back(t, 0)) })
		r.wantTells(t, 5, 1, true)
		r.wantRoots(t, map[int]int{0: 1, 5: 4, 15: 3})
		r.wantRead(t, 1, 40)
		r.wantBytes(t, 2, noughts())
		r.wantRead(t, 3, 13)
		r.wantBytes(t, 4, freed(0))
		want(t, name, r.look(t, 5), api.ErrRange)
		r.makes(t, 4, 5)
		ok(t, r.commit(t))
		r.again(t, 2)
	}
}

// P9.2: a mark of nothing: going back drops all; the commit then writes nothing.
func TestBackNothing(t *testing.T) {
	r := filled(t, broad, 8)
	ok(t, r.begin(t))
	r.marksFrom(t, 0)
	for turn := range 6 {
		r.change(t, turn)
	}
	ok(t, r.back(t, 0))
	r.wantTells(t, 5, 2, true)
	r.wantRoots(t, map[int]int{0: 1, 15: 3})
	r.unchanged(t, func() { ok(t, r.commit(t)) })
	r.pages(t)
}

// P9.2: forgetting a mark changes nothing else; what was done behind it stays, and the marks ahead of it, too.
func TestForget(t *testing.T) {
	for from := range 4 {
		r := filled(t, broad, 8)
		ok(t, r.begin(t))
		for n := range 4 {
			r.change(t, n)
			r.marksFrom(t, n)
		}
		r.change(t, 9)
		r.unchanged(t, func() { ok(t, r.forget(t, from)) })
		r.pages(t)
		if from > 0 {
			ok(t, r.back(t, from-1))
			r.pages(t)
		}
		ok(t, r.commit(t))
		r.again(t, 2)
	}
}

// P9.2: a transaction that is over has no marks, however it ended; one whose commit was an error has them still.
func TestMarksOver(t *testing.T) {
	for name, end := range map[string]func(r *pair){
		"committed":         func(r *pair) { ok(t, r.commit(t)) },
		"committed nothing": func(r *pair) { ok(t, r.back(t, 1), r.back(t, 0), r.commit(t)) },
		"rolled back":       func(r *pair) { ok(t, r.rollback(t)) },
	} {
		r := filled(t, broad, 4)
		ok(t, r.begin(t))
		r.marksFrom(t, 0)
		ok(t, r.put(t, 50, 1))
		r.marksFrom(t, 1, 2)
		end(r)
		ok(t, r.begin(t))
		for _, n := range []int{0, 1, 2} {
			want(t, name, r.back(t, n), api.ErrArg)
			want(t, name, r.forget(t, n), api.ErrArg)
		}
		ok(t, r.put(t, 51, 3))
		r.marksFrom(t, 0)
		ok(t, r.put(t, 52, 3), r.back(t, 0))
		r.wantRead(t, 3, 51)
	}
	r := filled(t, broad, 4)
	ok(t, r.begin(t))
	r.marksFrom(t, 0)
	ok(t, r.put(t, 50, 1))
	r.marksFrom(t, 1)
	r.stop(t, 0)
	want(t, "Commit", r.commit(t), api.ErrStopped)
	ok(t, r.back(t, 1))
	r.wantRead(t, 1, 50)
	ok(t, r.back(t, 0))
	r.stop(t, 99)
	r.wantRead(t, 1, 11)
}

// P9.2: with few clean pages at hand, or none: the pages that were dirty come back, whichever are at hand, and in whichever order they were written.
func TestBackCrowded(t *testing.T) {
	for room := 2; room < 8; room++ {
		for seed := range int64(10) {
			r := filled(t, broad, 8)
			ok(t, r.begin(t))
			r.makes(t, 2, 4, 5, 6, 7)
			ok(t, r.commit(t), r.checkIn(t))
			r = r.again(t, room)
			ok(t, r.begin(t))
			before := rand.New(rand.NewSource(seed)).Perm(7)[:room]
			for _, at := range before[:room-int(seed)%2] {
				ok(t, r.put(t, byte(60+at), at+1))
			}
			r.marksFrom(t, 0)
			other := rand.New(rand.NewSource(seed + 1000)).Perm(7)
			for _, at := range other {
				r.put(t, byte(80+at), at+1)
			}
			r.look(t, 1, 2, 3, 4, 5, 6, 7)
			r.stop(t, 0)
			ok(t, r.back(t, 0))
			for _, at := range before[:room-int(seed)%2] {
				r.wantRead(t, at+1, byte(60+at))
			}
			r.stop(t, 99)
			ok(t, r.rollback(t))
			r.pages(t)
		}
	}
}

// P9.2: the pages of a mark are written, rising, as they were: those that were used longest ago go first then, in that order.
func TestBackRising(t *testing.T) {
	r := filled(t, broad, 8)
	ok(t, r.begin(t))
	r.makes(t, 2, 4, 5, 6)
	ok(t, r.commit(t), r.checkIn(t))
	r = r.again(t, 4)
	ok(t, r.begin(t), r.put(t, 66, 6), r.put(t, 61, 1), r.put(t, 64, 4))
	r.marksFrom(t, 0)
	ok(t, r.back(t, 0), r.commit(t), r.look(t, 3, 5))
	r.stop(t, 0)
	b, e := r.p.Read(2)
	if want(t, "page 2", e, api.ErrStopped); b != nil {
		t.Errorf("bytes beside an error")
	}
	r.stop(t, 99)
	ok(t, r.checkIn(t))
	r.stop(t, 0)
	ok(t, r.look(t, 3, 5, 6))
	want(t, "page 1 went", r.look(t, 1), api.ErrStopped)
	want(t, "page 4 went", r.look(t, 4), api.ErrStopped)
}

// P9.2: a mark has bytes of its own: what is written later, with the same bytes or in the same memory, does not come to it.
func TestMarkApart(t *testing.T) {
	r := filled(t, broad, 4)
	ok(t, r.begin(t))
	b := page(70)
	ok(t, r.write(t, 1, b))
	r.marksFrom(t, 0)
	clear(b)
	got, e := r.p.Read(1)
	ok(t, e)
	clear(got)
	ok(t, r.put(t, 71, 1, 3))
	r.marksFrom(t, 1)
	ok(t, r.put(t, 72, 1, 3), r.back(t, 1))
	r.wantRead(t, 1, 71)
	r.wantRead(t, 3, 71)
	ok(t, r.put(t, 73, 1, 3), r.back(t, 0))
	r.wantRead(t, 1, 70)
	r.wantRead(t, 3, 13)
}

// P9.2: a page 0 that is dirty behind a commit that was an error goes with the others, and comes back with them.
func TestBackPageZero(t *testing.T) {
	r := filled(t, broad, 3)
	ok(t, r.begin(t), r.put(t, 50, 1))
	r.marksFrom(t, 0)
	ok(t, r.setRoot(t, 4, 4))
	r.stop(t, 0)
	want(t, "Commit", r.commit(t), api.ErrStopped)
	r.marksFrom(t, 1)
	r.stop(t, 99)
	ok(t, r.put(t, 51, 3))
	want(t, "full", r.look(t, 2), api.ErrFull)
	ok(t, r.back(t, 1), r.look(t, 2), r.put(t, 52, 3))
	want(t, "full", r.look(t, 2), api.ErrFull)
	ok(t, r.back(t, 0), r.put(t, 53, 3), r.look(t, 2))
	r.wantRoots(t, map[int]int{0: 1, 15: 3})
	ok(t, r.commit(t))
	r.wantZero(t, 5, zero(2, 2, 1, 0, 0, 0, 0, 0, 0, 0, 0, 0, 0, 0, 0, 0, 0, 3))
	r.again(t, 3)
}

// P9.2: many marks, in one another.
func TestManyMarks(t *testing.T) {
	r := filled(t, broad, 4)
	ok(t, r.begin(t))
	for n := range 300 {
		ok(t, r.put(t, byte(n), 1), r.setRoot(t, n%16, n%5))
		r.marksFrom(t, n)
	}
	for _, n := range []int{299, 255, 254, 100, 3} {
		ok(t, r.back(t, n))
		r.wantRead(t, 1, byte(n))
		r.marksFrom(t, n)
		ok(t, r.put(t, 7, 3))
	}
	ok(t, r.forget(t, 1), r.back(t, 0))
	r.wantRead(t, 1, 0)
	r.wantRead(t, 3, 13)
}

// P9.2: marks behind others that are gone take nothing from those that stay.
func TestMarksAfresh(t *testing.T) {
	for _, gone := range []func(r *pair, n int) api.Errno{
		func(r *pair, n int) api.Errno { return r.back(t, n) },
		func(r *pair, n int) api.Errno { return r.forget(t, n) },
	} {
		r := filled(t, broad, 5)
		ok(t, r.begin(t))
		firsts := []byte{}
		for turn := range 60 {
			first := byte(100 + turn)
			n := len(firsts)
			if turn%5 == 4 {
				n = turn * 7 % n
				ok(t, gone(r, n))
				firsts = slices.Clone(firsts[:n])
			}
			ok(t, r.put(t, first, 1))
			r.marksFrom(t, n)
			firsts = append(firsts, first)
			ok(t, r.put(t, 9, 1))
		}
		for n := len(firsts) - 1; n >= 0; n-- {
			ok(t, r.back(t, n))
			r.wantRead(t, 1, firsts[n])
		}
	}
}
