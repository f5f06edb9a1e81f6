package pager

import "loupe/api"

// next is the page that is made next, and the state behind that.
func (p *Pager) next() (int, state, api.Errno) {
	if p.free.first == 0 {
		return p.behindLast()
	}
	return p.firstFree()
}

// behindLast is the page behind the last one, and the state with it.
func (p *Pager) behindLast() (int, state, api.Errno) {
	if p.size >= p.cache.File().Plan().Pages {
		return 0, state{}, api.ErrFull
	}
	behind := p.state
	behind.size++
	return p.size, behind, api.OK
}

// firstFree is the first free page, and the state without it. One that the plan has not is none, though a file's size may be beyond its plan.
func (p *Pager) firstFree() (int, state, api.Errno) {
	behind := p.state
	b, e := p.cache.Read(p.free.first)
	if e == api.ErrRange {
		e = api.ErrBroken
	}
	if e != api.OK {
		goto wrong
	}
	behind.free = spare{numberAt(b, 0), p.free.many - 1}
	if behind.free.many < 0 || !behind.has(behind.free.first) {
		e = api.ErrBroken
		goto wrong
	}
	return p.free.first, behind, api.OK
wrong:
	return 0, state{}, e
}
