package frame

import "loupe/api"

// How many sectors there are of each thing.
const (
	headSectors  = 2 // of both heads
	pageSectors  = api.PageSize / api.SectorSize
	frameSectors = 1 + pageSectors
)

// area is things of one size, one behind the other: the sector where they begin, how many sectors each has, how many there are.
type area struct{ from, each, many int }

// frames is where a plan's frames lie.
func frames(p api.Plan) area { return area{headSectors, frameSectors, p.Frames} }

// pages is where a plan's pages lie: behind its frames.
func pages(p api.Plan) area { return area{frames(p).end(), pageSectors, p.Pages} }

// end tells the sector behind all of them.
func (a area) end() int { return a.from + a.each*a.many }

// at tells the first sector of one of them.
func (a area) at(n int) (int, api.Errno) {
	if e := refusal(api.ErrRange, span{n, 0, a.many - 1}); e != api.OK {
		return 0, e
	}
	return a.from + a.each*n, api.OK
}

// span is a number, and the least and the greatest that it may be.
type span struct{ n, least, most int }

// refusal tells the error, if one of the numbers is what it may not be.
func refusal(e api.Errno, l ...span) api.Errno {
	for _, s := range l {
		if s.n < s.least || s.n > s.most {
			goto refused
		}
	}
	return api.OK
refused:
	return e
}
