package wal

import (
	"loupe/api"
	"loupe/disk"
	"loupe/frame"
)

// frameSectors is how many sectors a frame has.
const frameSectors = 1 + api.PageSize/api.SectorSize

// place is where a log lies.
type place struct {
	disk *disk.Disk
	plan api.Plan
}

// heads is what the first sectors have.
type heads [2]found

// found is a head, if a good one is there.
type found struct {
	api.Head
	good bool
}

// absent tells whether there is no disk: one that its maker did not make has no sectors.
func (p place) absent() api.Errno {
	if p.disk.Len() == 0 {
		return api.ErrNil
	}
	return api.OK
}

// unfit tells whether the disk is not one of the plan.
func (p place) unfit() api.Errno {
	many, e := frame.Sectors(p.plan)
	if e == api.OK && many != p.disk.Len() {
		e = api.ErrArg
	}
	return e
}

// head tells the head. A disk without a good one is formatted.
func (p place) head() (api.Head, api.Errno) {
	l, e := p.heads()
	if e != api.OK {
		return api.Head{}, e
	}
	if best := l.best(); best.good {
		return best.Head, api.OK
	}
	return p.format()
}

// format writes the first head.
func (p place) format() (api.Head, api.Errno) {
	h := api.Head{Serial: 1, Epoch: 1}
	if e := p.write(h); e != api.OK {
		return api.Head{}, e
	}
	return h, api.OK
}

// heads reads both.
func (p place) heads() (heads, api.Errno) {
	var l heads
	for at := range l {
		b, e := p.disk.Read(at)
		if e != api.OK {
			return heads{}, e
		}
		h, e := frame.DecodeHead(b)
		l[at] = found{h, e == api.OK && headAt(h) == at}
	}
	return l, api.OK
}

// best tells the good one with the greatest Serial.
func (l heads) best() found {
	var best found
	for _, f := range l {
		if f.good && (!best.good || f.Serial > best.Serial) {
			best = f
		}
	}
	return best
}

// headAt tells a head's sector.
func headAt(h api.Head) int { return int(h.Serial % 2) }

// readFrame reads a frame. Beyond the plan's last one there is none.
func (p place) readFrame(index int) (api.Frame, api.Errno) {
	var b []byte
	at, e := frame.FrameAt(p.plan, index)
	for n := 0; n < frameSectors && e == api.OK; n++ {
		var s []byte
		s, e = p.disk.Read(at + n)
		b = append(b, s...)
	}
	if e != api.OK {
		return api.Frame{}, e
	}
	return frame.Decode(b)
}

// write writes frames, and behind them a head. The frames are synced first: no head counts frames that a crash may take.
func (p place) write(h api.Head, l ...api.Frame) api.Errno {
	var steps []func() api.Errno
	for _, f := range l {
		steps = append(steps, func() api.Errno { return p.writeFrame(f) })
	}
	if len(l) > 0 {
		steps = append(steps, p.disk.Sync)
	}
	steps = append(steps, func() api.Errno { return p.writeHead(h) }, p.disk.Sync)
	return first(steps...)
}

// writeHead writes a head to its sector.
func (p place) writeHead(h api.Head) api.Errno {
	b, e := frame.EncodeHead(h)
	if e == api.OK {
		e = p.lay(headAt(h), b)
	}
	return e
}

// writeFrame writes a frame to its sectors.
func (p place) writeFrame(f api.Frame) api.Errno {
	var b []byte
	at, e := frame.FrameAt(p.plan, f.Index)
	if e == api.OK {
		b, e = frame.Encode(f)
	}
	if e == api.OK {
		e = p.lay(at, b)
	}
	return e
}

// lay writes bytes, sector by sector.
func (p place) lay(at int, b []byte) api.Errno {
	for n, s := range frame.Cut(b) {
		if e := p.disk.Write(at+n, s); e != api.OK {
			return e
		}
	}
	return api.OK
}

// first does one thing behind the other, and tells the first error; what is behind it is not done.
func first(l ...func() api.Errno) api.Errno {
	var e api.Errno
	for _, do := range l {
		if e = do(); e != api.OK {
			goto wrong
		}
	}
	return api.OK
wrong:
	return e
}
