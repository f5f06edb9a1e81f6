package file

import (
	"iter"
	"maps"

	"loupe/api"
	"loupe/frame"
	"loupe/wal"
)

// pageSectors is how many sectors a page has.
const pageSectors = api.PageSize / api.SectorSize

// opened is a file as Open found it: its log, and where its pages lie.
type opened struct {
	*wal.Log
	plan api.Plan
}

// missing tells whether there is no file: Open makes none without a disk.
func (o opened) missing() api.Errno {
	if o.Disk().Len() == 0 {
		return api.ErrNil
	}
	return api.OK
}

// read tells a page's bytes.
func (o opened) read(page int) ([]byte, api.Errno) {
	var b []byte
	var at int
	e := o.missing()
	if e != api.OK {
		goto wrong
	}
	at, e = frame.PageAt(o.plan, page)
	if e != api.OK {
		goto wrong
	}
	if b, is := o.Page(page); is {
		return b, api.OK
	}
	b, e = o.readSectors(at)
	if e != api.OK {
		goto wrong
	}
	return b, api.OK
wrong:
	return nil, e
}

// readSectors reads a page from its sectors.
func (o opened) readSectors(at int) ([]byte, api.Errno) {
	b := make([]byte, api.PageSize)
	for n := range pageSectors {
		s, e := o.Disk().Read(at + n)
		if e != api.OK {
			return nil, e
		}
		copy(sector(b, n), s)
	}
	return b, api.OK
}

// checkIn checks the log in. The pages are synced first: no crash takes both a page's sectors and its frames.
func (o opened) checkIn() api.Errno { return done(api.OK, o.writePages, o.Disk().Sync, o.Reset) }

// writePages writes the log's pages to their sectors.
func (o opened) writePages() api.Errno {
	e := api.OK
pages:
	for page, b := range o.logged() {
		at, _ := frame.PageAt(o.plan, page) // each page here is one of the plan
		for n := range pageSectors {
			e = o.Disk().Write(at+n, sector(b, n))
			if e != api.OK {
				break pages
			}
		}
	}
	return e
}

// logged goes over the plan's pages that the log has, rising. A frame that others laid may be of a page that the plan has not: it has no sectors.
func (o opened) logged() iter.Seq2[int, []byte] {
	pages := maps.Collect(o.Pages())
	return func(yield func(int, []byte) bool) {
		for page := range o.plan.Pages {
			if b, is := pages[page]; is && !yield(page, b) {
				return
			}
		}
	}
}

// sector is one of a page's, without the room behind it.
func sector(b []byte, n int) []byte {
	at, end := n*api.SectorSize, (n+1)*api.SectorSize
	return b[at:end:end]
}

// done does steps, one behind the other, and tells how the first one went that did not go well; what is behind it is not done.
func done[E comparable](well E, steps ...func() E) E {
	for _, do := range steps {
		if e := do(); e != well {
			return e
		}
	}
	return well
}
