package pager

import (
	"bytes"

	"loupe/api"
	"loupe/cache"
	"loupe/octet"
)

// signature is what page 0 begins with.
const signature = "loupe001"

// fourBytes is how many bytes a page's number has on pages.
const fourBytes = 4

// state is what page 0 and the file's size hold.
type state struct {
	size  int
	free  spare
	roots [api.Roots]int
}

// spare is free pages: the first one, which tells the next, and how many. It begins with 0, if there is none.
type spare struct{ first, many int }

// begun is a new file's state, once it is committed.
func begun(c *cache.Cache) (state, api.Errno) {
	s := state{size: 1}
	e := first(
		func() api.Errno { return c.Write(0, s.pageZero()) },
		func() api.Errno { return c.Commit(s.size) })
	return s, e
}

// found is the state that a file has.
func found(c *cache.Cache) (state, api.Errno) {
	b, e := c.Read(0)
	if e != api.OK {
		return state{}, e
	}
	return stateOf(b, c.File().Size())
}

// stateOf is the state that a page 0 of a file of this size holds. Its first bytes, and its noughts, are held against those that these numbers ask for.
func stateOf(b []byte, size int) (state, api.Errno) {
	numbers := b[len(signature):]
	s := state{size: size, free: spare{numberAt(numbers, 0), numberAt(numbers, 1)}}
	for i := range s.roots {
		s.roots[i] = numberAt(numbers, 2+i)
	}
	if !bytes.Equal(b, s.pageZero()) || !s.has(s.free.first) || !s.has(s.roots[:]...) {
		goto wrong
	}
	return s, api.OK
wrong:
	return state{}, api.ErrBroken
}

// pageZero is the page 0 that holds a state.
func (s state) pageZero() []byte {
	return pageOf(signature, append([]int{s.free.first, s.free.many}, s.roots[:]...)...)
}

// has tells whether pages are below the size.
func (s state) has(pages ...int) bool {
	for _, page := range pages {
		if page < 0 || page >= s.size {
			return false
		}
	}
	return true
}

// outside tells of a page that is not from a least one on up to the size, less one.
func (s state) outside(least, page int) api.Errno {
	if page < least || !s.has(page) {
		return api.ErrRange
	}
	return api.OK
}

// same tells whether another state is the same.
func (s state) same(other state) bool {
	return s.size == other.size && s.free == other.free && s.roots == other.roots
}

// chain has a page be the first free one.
func (s *state) chain(page int) api.Errno {
	s.free = spare{page, s.free.many + 1}
	return api.OK
}

// turn has a root be a page.
func (s *state) turn(root, page int) api.Errno {
	s.roots[root] = page
	return api.OK
}

// pageOf is a page of a text, numbers behind it, and then noughts.
func pageOf(text string, numbers ...int) []byte {
	b := []byte(text)
	for _, n := range numbers {
		b = append(b, octet.Four(uint32(n))...)
	}
	return append(b, make([]byte, api.PageSize-len(b))...)
}

// numberAt is one of the numbers that bytes begin with.
func numberAt(b []byte, i int) int {
	n, _ := octet.ReadFour(b[i*fourBytes:]) // a page has more bytes than its numbers
	return int(n)
}

// wrongBytes tells of bytes that are no page's.
func wrongBytes(b []byte) api.Errno {
	if len(b) != api.PageSize {
		return api.ErrArg
	}
	return api.OK
}

// wrongRoot tells of a root's number that may not be.
func wrongRoot(i int) api.Errno {
	if i < 0 || i >= api.Roots {
		return api.ErrArg
	}
	return api.OK
}
