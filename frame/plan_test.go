package frame_test

import (
	"math"
	"testing"

	"loupe/api"
	"loupe/frame"
)

// many is numbers of frames and pages that may be.
func many() []int { return []int{1, 2, 3, 4, 255, 256, 1000, 1999, 2000} }

// notMany is those that may not be.
func notMany() []int {
	return []int{0, -1, -2, -2000, 2001, 2002, 4000, 1 << 16, 1 << 32, 1<<32 + 1, 1<<32 + 2000, math.MinInt32, math.MaxInt32, math.MinInt, math.MinInt + 1, math.MaxInt}
}

// wantRefused holds that all calls refuse a plan as one that may not be, whatever else they are asked for.
func wantRefused(t *testing.T, p api.Plan) {
	t.Helper()
	if e := frame.Check(p); e != api.ErrArg {
		t.Errorf("Check(%v) is %v", p, e)
	}
	if n, e := frame.Sectors(p); n != 0 || e != api.ErrArg {
		t.Errorf("Sectors(%v) is %d, %v", p, n, e)
	}
	for _, at := range []int{0, 1, -1, p.Frames, p.Pages, p.Frames - 1, p.Pages - 1, 2000, math.MinInt, math.MaxInt} {
		if n, e := frame.FrameAt(p, at); n != 0 || e != api.ErrArg {
			t.Errorf("FrameAt(%v, %d) is %d, %v", p, at, n, e)
		}
		if n, e := frame.PageAt(p, at); n != 0 || e != api.ErrArg {
			t.Errorf("PageAt(%v, %d) is %d, %v", p, at, n, e)
		}
	}
}

// P5.1: plans that may be, and that may not be, for their frames, their pages, or both; ErrArg ahead of ErrRange.
func TestCheck(t *testing.T) {
	for _, frames := range many() {
		for _, pages := range many() {
			if e := frame.Check(api.Plan{Frames: frames, Pages: pages}); e != api.OK {
				t.Errorf("Check(%d, %d) is %v", frames, pages, e)
			}
		}
	}
	for _, not := range notMany() {
		for _, n := range append(many(), notMany()...) {
			wantRefused(t, api.Plan{Frames: not, Pages: n})
			wantRefused(t, api.Plan{Frames: n, Pages: not})
		}
	}
	wantRefused(t, api.Plan{})
}

// P5.1: sectors that the chapter's words come to, not worked out here.
func TestSectorsOfPlans(t *testing.T) {
	for _, c := range []struct {
		p                                       api.Plan
		sectors, lastFrame, firstPage, lastPage int
	}{
		{api.Plan{Frames: 3, Pages: 4}, 61, 20, 29, 53},
		{api.Plan{Frames: 1, Pages: 1}, 19, 2, 11, 11},
		{api.Plan{Frames: 1, Pages: 2}, 27, 2, 11, 19},
		{api.Plan{Frames: 2, Pages: 1}, 28, 11, 20, 20},
		{api.Plan{Frames: 1, Pages: 2000}, 16011, 2, 11, 16003},
		{api.Plan{Frames: 2000, Pages: 1}, 18010, 17993, 18002, 18002},
		{api.Plan{Frames: 2000, Pages: 2000}, 34002, 17993, 18002, 33994},
	} {
		wantSector(t, c.p, "Sectors", c.sectors)(frame.Sectors(c.p))
		wantSector(t, c.p, "FrameAt 0", 2)(frame.FrameAt(c.p, 0))
		wantSector(t, c.p, "FrameAt the last", c.lastFrame)(frame.FrameAt(c.p, c.p.Frames-1))
		wantSector(t, c.p, "PageAt 0", c.firstPage)(frame.PageAt(c.p, 0))
		wantSector(t, c.p, "PageAt the last", c.lastPage)(frame.PageAt(c.p, c.p.Pages-1))
	}
}

// wantSector holds an answer against a number that is wanted.
func wantSector(t *testing.T, p api.Plan, name string, want int) func(int, api.Errno) {
	t.Helper()
	return func(n int, e api.Errno) {
		t.Helper()
		if n != want || e != api.OK {
			t.Errorf("%s of %v is %d, %v, not %d", name, p, n, e, want)
		}
	}
}

// P5.1: places that a plan has not.
func TestBeyond(t *testing.T) {
	for _, frames := range many() {
		for _, pages := range many() {
			p := api.Plan{Frames: frames, Pages: pages}
			for _, far := range []int{0, 1, 2, 2000, 1 << 32, math.MaxInt - 2000} {
				wantRange(t, p, "FrameAt", frames+far)(frame.FrameAt(p, frames+far))
				wantRange(t, p, "PageAt", pages+far)(frame.PageAt(p, pages+far))
			}
			for _, at := range []int{-1, -2, -frames, -pages, -1 << 32, 1<<32 - 1<<33, math.MinInt, math.MaxInt} {
				wantRange(t, p, "FrameAt", at)(frame.FrameAt(p, at))
				wantRange(t, p, "PageAt", at)(frame.PageAt(p, at))
			}
		}
	}
}

// wantRange holds that there is no such place.
func wantRange(t *testing.T, p api.Plan, name string, at int) func(int, api.Errno) {
	t.Helper()
	return func(n int, e api.Errno) {
		t.Helper()
		if n != 0 || e != api.ErrRange {
			t.Errorf("%s(%v, %d) is %d, %v", name, p, at, n, e)
		}
	}
}

// P5.1, P5.4: heads, frames and pages, one behind the other, fill the disk: none of its sectors is left over, and none is two's.
func TestNoTwoShare(t *testing.T) {
	for _, frames := range many() {
		for _, pages := range many() {
			p := api.Plan{Frames: frames, Pages: pages}
			next := 2
			for at := range frames {
				wantSector(t, p, "FrameAt", next)(frame.FrameAt(p, at))
				next += 9
			}
			for at := range pages {
				wantSector(t, p, "PageAt", next)(frame.PageAt(p, at))
				next += 8
			}
			wantSector(t, p, "Sectors", next)(frame.Sectors(p))
		}
	}
}
