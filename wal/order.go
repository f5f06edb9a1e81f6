package wal

import "loupe/api"

// order is what is to be appended to a log.
type order struct {
	log   *Log
	size  int
	pages []api.PageWrite
}

// wrong tells whether it may not be.
func (o order) wrong() api.Errno {
	if len(o.pages) == 0 || o.size < 0 || o.size > o.log.plan.Pages {
		goto wrong
	}
	for _, w := range o.pages {
		if w.Page < 0 || w.Page >= o.log.plan.Pages || len(w.Bytes) != api.PageSize {
			goto wrong
		}
	}
	return api.OK
wrong:
	return api.ErrArg
}

// full tells whether there is no room for it.
func (o order) full() api.Errno {
	if len(o.pages) > o.log.room() {
		return api.ErrFull
	}
	return api.OK
}

// done appends it. Its head has the size that the log had: that is the log's, should none of its frames count when the disk is opened again.
func (o order) done() api.Errno {
	l := o.log
	f := l.frames(o.size, o.pages)
	h := api.Head{Serial: l.serial + 1, Epoch: l.end.epoch, Size: l.size, Count: l.end.index + len(f)}
	e := l.write(h, f...)
	if e == api.OK {
		l.serial = h.Serial
		l.take(f)
	}
	return e
}
