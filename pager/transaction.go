package pager

import (
	"bytes"
	"iter"
	"maps"
	"slices"

	"loupe/api"
)

// mark is a state, and the pages that were dirty then.
type mark struct {
	state
	dirty map[int][]byte
}

// idle tells whether there is no transaction.
func (p *Pager) idle() api.Errno {
	if !p.under {
		return api.ErrIdle
	}
	return api.OK
}

// busy tells whether there is one.
func (p *Pager) busy() api.Errno {
	if p.under {
		return api.ErrIdle
	}
	return api.OK
}

// start has one begun.
func (p *Pager) start() api.Errno {
	p.under = true
	return api.OK
}

// end has it over, and its marks gone.
func (p *Pager) end() api.Errno {
	p.under = false
	return p.cut(0)
}

// save commits what was changed, if anything was.
func (p *Pager) save() api.Errno {
	if p.same(p.committed) && !p.written() {
		return api.OK
	}
	return first(p.layPageZero,
		func() api.Errno { return p.cache.Commit(p.size) },
		func() api.Errno { p.committed = p.state; return api.OK })
}

// written tells whether a page is dirty.
func (p *Pager) written() bool {
	is := false
pages:
	for range p.cache.Dirty() {
		is = true
		break pages
	}
	return is
}

// layPageZero writes page 0, unless it is as it ought to be.
func (p *Pager) layPageZero() api.Errno {
	ought := p.pageZero()
	b, e := p.cache.Read(0)
	if e == api.OK && !bytes.Equal(b, ought) {
		e = p.cache.Write(0, ought)
	}
	return e
}

// undo has all be as it was committed last.
func (p *Pager) undo() api.Errno {
	p.state = p.committed
	return p.cache.Drop()
}

// noMark tells of a mark that there is not.
func (p *Pager) noMark(mark int) api.Errno {
	if mark < 0 || mark >= len(p.marks) {
		return api.ErrArg
	}
	return api.OK
}

// goBack has all be as it was at a mark. There is room for the pages that were dirty then: no other one is dirty behind the drop.
func (p *Pager) goBack(to int) api.Errno {
	was := p.marks[to]
	p.state = was.state
	return first(p.cache.Drop,
		func() api.Errno { return p.writeAll(was.dirty) },
		func() api.Errno { return p.cut(to) })
}

// writeAll writes pages, rising.
func (p *Pager) writeAll(pages map[int][]byte) api.Errno {
	e := api.OK
all:
	for page, b := range rising(pages) {
		e = p.cache.Write(page, b)
		if e != api.OK {
			break all
		}
	}
	return e
}

// cut lets the marks from one on go. They are cleared, as the list's room would keep their pages.
func (p *Pager) cut(from int) api.Errno {
	clear(p.marks[from:])
	p.marks = p.marks[:from:from]
	return api.OK
}

// rising goes over pages by their numbers' order.
func rising(pages map[int][]byte) iter.Seq2[int, []byte] {
	return func(yield func(int, []byte) bool) {
		for _, page := range slices.Sorted(maps.Keys(pages)) {
			if !yield(page, pages[page]) {
				return
			}
		}
	}
}
