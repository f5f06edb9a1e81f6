package cache

import (
	"cmp"
	"iter"
	"maps"
	"slices"

	"loupe/api"
)

// hand is the pages at hand.
type hand struct {
	room  int
	pages map[int]atHand
	uses  use // how many there were
}

// atHand is a page at hand. Its bytes are never changed, but give way to others.
type atHand struct {
	use
	bytes []byte
	dirty bool
}

// use is when something was used last: the how manyth use of all it was.
type use int

// ahead tells whether it was ahead of another one.
func (u use) ahead(of use) bool { return u < of }

// wrongRoom tells of a room that may not be.
func (h *hand) wrongRoom() api.Errno {
	if h.room < 2 || h.room > api.MaxFrames {
		return api.ErrArg
	}
	return api.OK
}

// put has a page at hand from now on, as it is used now.
func (h *hand) put(page int, p atHand) api.Errno {
	if _, is := h.pages[page]; !is {
		if e := h.makeRoom(); e != api.OK {
			return e
		}
	}
	h.uses++
	p.use = h.uses
	h.pages[page] = p
	return api.OK
}

// makeRoom lets a page go, if there is no room for one more.
func (h *hand) makeRoom() api.Errno {
	if len(h.pages) < h.room {
		return api.OK
	}
	page, is := h.oldest()
	if !is {
		return api.ErrFull
	}
	delete(h.pages, page)
	return api.OK
}

// oldest is the clean page that was used longest ago, if there is one.
func (h *hand) oldest() (page int, is bool) {
	var least use
	for n, p := range h.pages {
		if !p.dirty && (!is || p.ahead(least)) {
			page, least, is = n, p.use, true
		}
	}
	return page, is
}

// dirty goes over the dirty pages, rising, as they are now.
func (h *hand) dirty() iter.Seq2[int, []byte] {
	was := maps.Clone(h.pages)
	numbers := picked(was, func(p atHand) bool { return p.dirty })
	return func(yield func(int, []byte) bool) {
		for _, page := range numbers {
			if !yield(page, was[page].bytes) {
				return
			}
		}
	}
}

// writes is them as a file is to write them.
func (h *hand) writes() []api.PageWrite {
	var w []api.PageWrite
	for page, b := range h.dirty() {
		w = append(w, api.PageWrite{Page: page, Bytes: b})
	}
	return w
}

// clean has pages clean from now on.
func (h *hand) clean(pages ...api.PageWrite) {
	for _, w := range pages {
		p := h.pages[w.Page]
		p.dirty = false
		h.pages[w.Page] = p
	}
}

// drop lets the dirty pages go.
func (h *hand) drop() api.Errno {
	maps.DeleteFunc(h.pages, func(_ int, p atHand) bool { return p.dirty })
	return api.OK
}

// picked is the keys of what a closure picks, rising.
func picked[K cmp.Ordered, V any](all map[K]V, picks func(V) bool) []K {
	var l []K
	for k, v := range all {
		if picks(v) {
			l = append(l, k)
		}
	}
	slices.Sort(l)
	return l
}
