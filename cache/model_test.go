package cache_test

import (
	"fmt"
	"iter"
	"slices"
	"testing"

	"loupe/api"
	"loupe/cache"
	"loupe/disk"
	"loupe/file"
)

// A cache in another way: a list of pages, the one that was used last at its end, over a file of its own.

// held is a page at hand.
type held struct {
	page  int
	text  string
	dirty bool
}

// model is a cache.
type model struct {
	f            *file.File
	room         int
	hand         []held
	hits, misses int
}

// at is a page's place in the list, or -1.
func (m *model) at(page int) int {
	return slices.IndexFunc(m.hand, func(h held) bool { return h.page == page })
}

// roomy tells whether there is a place for one more page, once a clean one has gone.
func (m *model) roomy() bool {
	return len(m.hand) < m.room || slices.ContainsFunc(m.hand, func(h held) bool { return !h.dirty })
}

// takeIn has one more page; the first clean one of the list goes, where the list is full.
func (m *model) takeIn(h held) {
	if len(m.hand) == m.room {
		at := slices.IndexFunc(m.hand, func(h held) bool { return !h.dirty })
		m.hand = slices.Delete(m.hand, at, at+1)
	}
	m.hand = append(m.hand, h)
}

func (m *model) read(page int) (string, api.Errno) {
	if at := m.at(page); at >= 0 {
		h := m.hand[at]
		m.hand = append(slices.Delete(m.hand, at, at+1), h)
		m.hits++
		return h.text, api.OK
	}
	m.misses++
	b, e := m.f.Read(page)
	if e != api.OK {
		return "", e
	}
	if !m.roomy() {
		return "", api.ErrFull
	}
	m.takeIn(held{page, string(b), false})
	return string(b), api.OK
}

func (m *model) write(page int, b []byte) api.Errno {
	at := m.at(page)
	switch {
	case len(b) != 512:
		return api.ErrArg
	case page < 0 || page >= m.f.Plan().Pages:
		return api.ErrRange
	case at >= 0:
		m.hand = append(slices.Delete(m.hand, at, at+1), held{page, string(b), true})
		return api.OK
	case !m.roomy():
		return api.ErrFull
	}
	m.takeIn(held{page, string(b), true})
	return api.OK
}

// dirty is the dirty pages, rising.
func (m *model) dirty() []shown {
	var l []shown
	for page := range m.f.Plan().Pages {
		if at := m.at(page); at >= 0 && m.hand[at].dirty {
			l = append(l, shown{page, m.hand[at].text})
		}
	}
	return l
}

func (m *model) commit(size int) api.Errno {
	l := m.dirty()
	if len(l) == 0 {
		if size == m.f.Size() {
			return api.OK
		}
		text, e := m.read(0)
		if e != api.OK {
			return e
		}
		return m.f.Commit(size, api.PageWrite{Page: 0, Bytes: []byte(text)})
	}
	var w []api.PageWrite
	for _, s := range l {
		w = append(w, api.PageWrite{Page: s.page, Bytes: []byte(s.text)})
	}
	e := m.f.Commit(size, w...)
	for at := range m.hand {
		m.hand[at].dirty = m.hand[at].dirty && e != api.OK
	}
	return e
}

func (m *model) drop() {
	m.hand = slices.DeleteFunc(m.hand, func(h held) bool { return h.dirty })
}

// pair is a cache and its model, each on a disk of its own, and what was done to them.
type pair struct {
	c    *cache.Cache
	m    *model
	done string
}

// over is a cache over a disk, and a model over a copy of it.
func over(t *testing.T, d *disk.Disk, p api.Plan, room int) *pair {
	t.Helper()
	other := d.Copy()
	f, e := file.Open(d, p)
	mf, me := file.Open(other, p)
	c, ce := cache.New(f, room)
	ok(t, e, me, ce)
	if c.File() != f {
		t.Fatalf("File is not the file")
	}
	r := &pair{c, &model{f: mf, room: room}, fmt.Sprintf("New(%v, %d); ", p, room)}
	r.hold(t)
	return r
}

// otherwise tells what a cache answers otherwise than its model; nothing, if there is nothing.
func (r *pair) otherwise() string {
	many := 0
	for page := -2; page < r.m.f.Plan().Pages+2; page++ {
		is := r.c.Has(page)
		if is != (r.m.at(page) >= 0) {
			return fmt.Sprintf("has page %d: %v", page, is)
		}
		if is {
			many++
		}
	}
	if many > r.m.room {
		return fmt.Sprintf("has %d pages", many)
	}
	if hits, misses := r.c.Counts(); hits != r.m.hits || misses != r.m.misses {
		return fmt.Sprintf("counts %d %d, not %d %d", hits, misses, r.m.hits, r.m.misses)
	}
	if l := gone(r.c.Dirty()); !slices.Equal(l, r.m.dirty()) {
		return fmt.Sprintf("has %v dirty, not %v", l, r.m.dirty())
	}
	if f := r.c.File(); f.Size() != r.m.f.Size() || !disk.Same(f.Disk(), r.m.f.Disk()) {
		return "has another file"
	}
	return ""
}

// hold holds a cache against its model.
func (r *pair) hold(t *testing.T) {
	t.Helper()
	if wrong := r.otherwise(); wrong != "" {
		t.Fatalf("%sthe cache %s", r.done, wrong)
	}
}

// both holds what both answered.
func (r *pair) both(t *testing.T, got, wanted api.Errno) api.Errno {
	t.Helper()
	if got != wanted {
		t.Fatalf("%sis %v, not %v", r.done, got, wanted)
	}
	r.hold(t)
	return got
}

// read reads a page, and tells it.
func (r *pair) read(t *testing.T, page int) (string, api.Errno) {
	t.Helper()
	r.done += fmt.Sprintf("Read(%d); ", page)
	b, e := r.c.Read(page)
	text, wanted := r.m.read(page)
	if string(b) != text || e != api.OK && b != nil {
		t.Fatalf("%sis %v, not %v", r.done, shown{page, string(b)}, shown{page, text})
	}
	return text, r.both(t, e, wanted)
}

// look reads pages, and tells the first error.
func (r *pair) look(t *testing.T, pages ...int) api.Errno {
	t.Helper()
	first := api.OK
	for _, page := range pages {
		if _, e := r.read(t, page); first == api.OK {
			first = e
		}
	}
	return first
}

// write writes bytes to a page.
func (r *pair) write(t *testing.T, page int, b []byte) api.Errno {
	t.Helper()
	r.done += fmt.Sprintf("Write(%d, %d bytes %x..); ", page, len(b), b[:min(len(b), 2)])
	return r.both(t, r.c.Write(page, b), r.m.write(page, b))
}

// put writes a page with this first byte to each of some pages, and tells the first error.
func (r *pair) put(t *testing.T, first byte, pages ...int) api.Errno {
	t.Helper()
	wrong := api.OK
	for _, at := range pages {
		if e := r.write(t, at, page(first)); wrong == api.OK {
			wrong = e
		}
	}
	return wrong
}

func (r *pair) commit(t *testing.T, size int) api.Errno {
	t.Helper()
	r.done += fmt.Sprintf("Commit(%d); ", size)
	return r.both(t, r.c.Commit(size), r.m.commit(size))
}

func (r *pair) drop(t *testing.T) {
	t.Helper()
	r.done += "Drop; "
	r.m.drop()
	r.both(t, r.c.Drop(), api.OK)
}

// stop lays a stop ahead of both.
func (r *pair) stop(t *testing.T, after int) {
	t.Helper()
	r.done += fmt.Sprintf("Stop(%d); ", after)
	r.both(t, r.c.File().Disk().Stop(after), r.m.f.Disk().Stop(after))
}

// checkIn checks both files in.
func (r *pair) checkIn(t *testing.T) api.Errno {
	t.Helper()
	r.done += "CheckIn; "
	return r.both(t, r.c.File().CheckIn(), r.m.f.CheckIn())
}

// shown is a page that was gone over.
type shown struct {
	page int
	text string
}

func (s shown) String() string {
	return fmt.Sprintf("page %d %x..", s.page, s.text[:min(2, len(s.text))])
}

// gone is what is gone over.
func gone(all iter.Seq2[int, []byte]) []shown {
	var l []shown
	for page, b := range all {
		l = append(l, shown{page, string(b)})
	}
	return l
}

// page is a page of other bytes each.
func page(first byte) []byte {
	var b []byte
	for i := range 512 {
		b = append(b, first+byte(7*i)+byte(i/64))
	}
	return b
}

// small is a plan of few frames and pages.
var small = api.Plan{Frames: 4, Pages: 6}

// newDisk is a plan's: two heads, nine sectors a frame, eight a page.
func newDisk(t *testing.T, p api.Plan) *disk.Disk {
	t.Helper()
	d, e := disk.New(2 + 9*p.Frames + 8*p.Pages)
	ok(t, e)
	return d
}

// newPair is a cache of a new disk.
func newPair(t *testing.T, p api.Plan, room int) *pair {
	t.Helper()
	return over(t, newDisk(t, p), p, room)
}

// filledDisk is a small plan's, whose pages have these first bytes: 0 to 2 in their sectors, 3 and 4 in the log, 5 in both; the size is 5.
func filledDisk(t *testing.T) *disk.Disk {
	t.Helper()
	d := newDisk(t, small)
	f, e := file.Open(d, small)
	ok(t, e, f.Commit(3, put(0, 10), put(1, 11), put(2, 12), put(5, 99)), f.CheckIn(), f.Commit(5, put(3, 13), put(4, 14), put(5, 15)))
	return d
}

// put is a page that is written.
func put(at int, first byte) api.PageWrite { return api.PageWrite{Page: at, Bytes: page(first)} }

// filled is a cache of that disk.
func filled(t *testing.T, room int) *pair {
	t.Helper()
	return over(t, filledDisk(t), small, room)
}

// wantRead holds what Read answers against the page with this first byte.
func (r *pair) wantRead(t *testing.T, at int, first byte) {
	t.Helper()
	if text, e := r.read(t, at); e != api.OK || text != string(page(first)) {
		t.Fatalf("%sis %v, %v", r.done, shown{at, text}, e)
	}
}

// wantHas holds which pages are at hand.
func (r *pair) wantHas(t *testing.T, pages ...int) {
	t.Helper()
	var l []int
	for at := range r.m.f.Plan().Pages {
		if r.c.Has(at) {
			l = append(l, at)
		}
	}
	if !slices.Equal(l, pages) {
		t.Fatalf("%shas %v, not %v", r.done, l, pages)
	}
}

// wantCounts holds how many hits and misses there were.
func (r *pair) wantCounts(t *testing.T, hits, misses int) {
	t.Helper()
	if h, m := r.c.Counts(); h != hits || m != misses {
		t.Fatalf("%scounts %d %d, not %d %d", r.done, h, m, hits, misses)
	}
}

// wantDirty holds which pages are dirty, by their first bytes.
func (r *pair) wantDirty(t *testing.T, pages ...api.PageWrite) {
	t.Helper()
	if got := gone(r.c.Dirty()); !slices.Equal(got, showing(pages...)) {
		t.Fatalf("%shas %v dirty, not %v", r.done, got, showing(pages...))
	}
}

// showing is pages as they are gone over.
func showing(pages ...api.PageWrite) []shown {
	var l []shown
	for _, w := range pages {
		l = append(l, shown{w.Page, string(w.Bytes)})
	}
	return l
}

// want holds an error against the one that is wanted.
func want(t *testing.T, name string, got, e api.Errno) {
	t.Helper()
	if got != e {
		t.Errorf("%s: %v, not %v", name, got, e)
	}
}

// ok holds that all went well.
func ok(t *testing.T, l ...api.Errno) {
	t.Helper()
	for i, e := range l {
		if e != api.OK {
			t.Fatalf("call %d: %v", i, e)
		}
	}
}
