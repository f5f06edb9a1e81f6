package pager_test

import (
	"encoding/binary"
	"fmt"
	"iter"
	"slices"
	"testing"

	"loupe/api"
	"loupe/cache"
	"loupe/disk"
	"loupe/file"
	"loupe/pager"
)

// A pager in another way: its free pages are a list, what its pages have is known beside the file; a cache of its own tells errors alone.

// facts is all that a transaction may change.
type facts struct {
	size  int
	free  []int // the one that is made next is the last one
	roots [16]int
	texts map[int]string
}

// copied is the same facts, apart.
func (f facts) copied() facts {
	f.free = slices.Clone(f.free)
	texts := map[int]string{}
	for page, text := range f.texts {
		texts[page] = text
	}
	f.texts = texts
	return f
}

// next is the page that is made next, if it is a free one, and else 0.
func (f facts) next() int {
	if len(f.free) == 0 {
		return 0
	}
	return f.free[len(f.free)-1]
}

// zero is page 0, as the file is to have it.
func (f facts) zero() []byte { return zero(f.next(), len(f.free), f.roots[:]...) }

// same tells whether page 0 and the size are the same.
func (f facts) same(g facts) bool {
	return f.size == g.size && slices.Equal(f.zero(), g.zero())
}

// marked is what a mark holds.
type marked struct {
	facts
	dirty []api.PageWrite
}

// model is a pager.
type model struct {
	c     *cache.Cache
	now   facts
	last  facts
	under bool
	marks []marked
}

// dirty is the dirty pages, rising.
func (m *model) dirty() []api.PageWrite {
	var l []api.PageWrite
	for at, b := range m.c.Dirty() {
		l = append(l, api.PageWrite{Page: at, Bytes: b})
	}
	return l
}

// over has the transaction over.
func (m *model) over() api.Errno {
	m.under, m.marks = false, nil
	return api.OK
}

func (m *model) begin() api.Errno {
	if m.under {
		return api.ErrIdle
	}
	m.under = true
	return api.OK
}

func (m *model) commit() api.Errno {
	if !m.under {
		return api.ErrIdle
	}
	if len(m.dirty()) == 0 && m.now.same(m.last) {
		return m.over()
	}
	b, e := m.c.Read(0)
	if e != api.OK {
		return e
	}
	if !slices.Equal(b, m.now.zero()) {
		m.c.Write(0, m.now.zero())
	}
	if e = m.c.Commit(m.now.size); e != api.OK {
		return e
	}
	m.last = m.now.copied()
	return m.over()
}

func (m *model) rollback() api.Errno {
	if !m.under {
		return api.ErrIdle
	}
	m.now = m.last.copied()
	m.c.Drop()
	return m.over()
}

func (m *model) mark() (int, api.Errno) {
	if !m.under {
		return 0, api.ErrIdle
	}
	m.marks = append(m.marks, marked{m.now.copied(), m.dirty()})
	return len(m.marks) - 1, api.OK
}

func (m *model) back(mark int) api.Errno {
	switch {
	case !m.under:
		return api.ErrIdle
	case mark < 0 || mark >= len(m.marks):
		return api.ErrArg
	}
	to := m.marks[mark]
	m.now, m.marks = to.copied(), m.marks[:mark]
	m.c.Drop()
	for _, w := range to.dirty {
		if e := m.c.Write(w.Page, w.Bytes); e != api.OK {
			panic("a page that was dirty has no room")
		}
	}
	return api.OK
}

func (m *model) forget(mark int) api.Errno {
	switch {
	case !m.under:
		return api.ErrIdle
	case mark < 0 || mark >= len(m.marks):
		return api.ErrArg
	}
	m.marks = m.marks[:mark]
	return api.OK
}

func (m *model) read(page int) (string, api.Errno) {
	if page < 1 || page >= m.now.size {
		return "", api.ErrRange
	}
	b, e := m.c.Read(page)
	if e == api.OK && string(b) != m.now.texts[page] {
		panic(fmt.Sprintf("page %d is not known", page))
	}
	return string(b), e
}

func (m *model) write(page int, b []byte) api.Errno {
	switch {
	case !m.under:
		return api.ErrIdle
	case len(b) != 512:
		return api.ErrArg
	case page < 1 || page >= m.now.size:
		return api.ErrRange
	}
	e := m.c.Write(page, b)
	if e == api.OK {
		m.now.texts[page] = string(b)
	}
	return e
}

func (m *model) makePage() (int, api.Errno) {
	if !m.under {
		return 0, api.ErrIdle
	}
	at := m.now.next()
	if at > 0 {
		if _, e := m.c.Read(at); e != api.OK {
			return 0, e
		}
	} else if at = m.now.size; at == m.c.File().Plan().Pages {
		return 0, api.ErrFull
	}
	if e := m.c.Write(at, make([]byte, 512)); e != api.OK {
		return 0, e
	}
	if at == m.now.size {
		m.now.size++
	} else {
		m.now.free = m.now.free[:len(m.now.free)-1]
	}
	m.now.texts[at] = string(make([]byte, 512))
	return at, api.OK
}

func (m *model) freePage(page int) api.Errno {
	switch {
	case !m.under:
		return api.ErrIdle
	case page < 1 || page >= m.now.size:
		return api.ErrRange
	}
	b := freed(m.now.next())
	e := m.c.Write(page, b)
	if e == api.OK {
		m.now.free = append(m.now.free, page)
		m.now.texts[page] = string(b)
	}
	return e
}

func (m *model) setRoot(i, page int) api.Errno {
	switch {
	case !m.under:
		return api.ErrIdle
	case i < 0 || i > 15:
		return api.ErrArg
	case page < 0 || page >= m.now.size:
		return api.ErrRange
	}
	m.now.roots[i] = page
	return api.OK
}

// pair is a pager and its model, each on a disk of its own, and what was done to them.
type pair struct {
	p    *pager.Pager
	f    *file.File
	m    *model
	done string
}

// newPair is a pager of a new disk.
func newPair(t *testing.T, plan api.Plan, room int) *pair {
	t.Helper()
	r, e := over(t, newDisk(t, plan), plan, room, facts{size: 1, texts: map[int]string{}})
	ok(t, e)
	return r
}

// over opens a disk, on which there is what is known.
func over(t *testing.T, d *disk.Disk, plan api.Plan, room int, known facts) (*pair, api.Errno) {
	t.Helper()
	other := d.Copy()
	f, e := file.Open(d, plan)
	mf, me := file.Open(other, plan)
	c, ce := cache.New(mf, room)
	ok(t, e, me, ce)
	p, e := pager.Open(f, room)
	if e != api.OK {
		return nil, e
	}
	if mf.Size() == 0 {
		ok(t, c.Write(0, known.zero()), c.Commit(1))
	} else {
		_, e := c.Read(0)
		ok(t, e)
	}
	r := &pair{p, f, &model{c: c, now: known.copied(), last: known.copied()}, fmt.Sprintf("Open(%v, %d); ", plan, room)}
	r.hold(t)
	return r, api.OK
}

// otherwise tells what a pager answers otherwise than its model; nothing, if there is nothing.
func (r *pair) otherwise() string {
	if r.p.Size() != r.m.now.size || r.p.Spare() != len(r.m.now.free) || r.p.Under() != r.m.under {
		return fmt.Sprintf("tells %d %d %v, not %d %d %v", r.p.Size(), r.p.Spare(), r.p.Under(), r.m.now.size, len(r.m.now.free), r.m.under)
	}
	for i, root := range r.m.now.roots {
		if got, e := r.p.Root(i); got != root || e != api.OK {
			return fmt.Sprintf("has root %d: %d, not %d, %v", i, got, root, e)
		}
	}
	if r.f.Size() != r.m.c.File().Size() || !disk.Same(r.f.Disk(), r.m.c.File().Disk()) {
		return "has another file"
	}
	return ""
}

// hold holds a pager against its model.
func (r *pair) hold(t *testing.T) {
	t.Helper()
	if wrong := r.otherwise(); wrong != "" {
		t.Fatalf("%sthe pager %s", r.done, wrong)
	}
}

// both holds what both answered.
func (r *pair) both(t *testing.T, got, wanted api.Errno) api.Errno {
	t.Helper()
	if got != wanted {
		t.Fatalf("%sis %v, not %v", r.done, got, wanted)
	}
	r.hold(t)
	return got
}

// numbered holds what both answered, with a number.
func (r *pair) numbered(t *testing.T, got int, e api.Errno, wanted int, we api.Errno) (int, api.Errno) {
	t.Helper()
	if got != wanted {
		t.Fatalf("%sis %d, not %d", r.done, got, wanted)
	}
	return got, r.both(t, e, we)
}

func (r *pair) begin(t *testing.T) api.Errno {
	t.Helper()
	r.done += "Begin; "
	return r.both(t, r.p.Begin(), r.m.begin())
}

func (r *pair) commit(t *testing.T) api.Errno {
	t.Helper()
	r.done += "Commit; "
	return r.both(t, r.p.Commit(), r.m.commit())
}

func (r *pair) rollback(t *testing.T) api.Errno {
	t.Helper()
	r.done += "Rollback; "
	return r.both(t, r.p.Rollback(), r.m.rollback())
}

func (r *pair) mark(t *testing.T) (int, api.Errno) {
	t.Helper()
	r.done += "Mark; "
	got, e := r.p.Mark()
	wanted, we := r.m.mark()
	return r.numbered(t, got, e, wanted, we)
}

func (r *pair) back(t *testing.T, mark int) api.Errno {
	t.Helper()
	r.done += fmt.Sprintf("Back(%d); ", mark)
	return r.both(t, r.p.Back(mark), r.m.back(mark))
}

func (r *pair) forget(t *testing.T, mark int) api.Errno {
	t.Helper()
	r.done += fmt.Sprintf("Forget(%d); ", mark)
	return r.both(t, r.p.Forget(mark), r.m.forget(mark))
}

// read reads a page, and tells it.
func (r *pair) read(t *testing.T, page int) (string, api.Errno) {
	t.Helper()
	r.done += fmt.Sprintf("Read(%d); ", page)
	b, e := r.p.Read(page)
	text, wanted := r.m.read(page)
	if string(b) != text || e != api.OK && b != nil {
		t.Fatalf("%sis %v, not %v", r.done, shown{page, string(b)}, shown{page, text})
	}
	return text, r.both(t, e, wanted)
}

// look reads pages, and tells the first error.
func (r *pair) look(t *testing.T, pages ...int) api.Errno {
	t.Helper()
	wrong := api.OK
	for _, page := range pages {
		if _, e := r.read(t, page); wrong == api.OK {
			wrong = e
		}
	}
	return wrong
}

// write writes bytes to a page.
func (r *pair) write(t *testing.T, page int, b []byte) api.Errno {
	t.Helper()
	r.done += fmt.Sprintf("Write(%d, %d bytes %x..); ", page, len(b), b[:min(len(b), 2)])
	return r.both(t, r.p.Write(page, b), r.m.write(page, b))
}

// put writes a page with this first byte to each of some pages, and tells the first error.
func (r *pair) put(t *testing.T, first byte, pages ...int) api.Errno {
	t.Helper()
	wrong := api.OK
	for _, at := range pages {
		if e := r.write(t, at, page(first)); wrong == api.OK {
			wrong = e
		}
	}
	return wrong
}

func (r *pair) makePage(t *testing.T) (int, api.Errno) {
	t.Helper()
	r.done += "Make; "
	got, e := r.p.Make()
	wanted, we := r.m.makePage()
	return r.numbered(t, got, e, wanted, we)
}

// makes makes pages, and holds which ones they are.
func (r *pair) makes(t *testing.T, pages ...int) {
	t.Helper()
	for _, page := range pages {
		if got, e := r.makePage(t); got != page || e != api.OK {
			t.Fatalf("%sis %d, %v, not %d", r.done, got, e, page)
		}
	}
}

// free frees pages, and tells the first error.
func (r *pair) free(t *testing.T, pages ...int) api.Errno {
	t.Helper()
	wrong := api.OK
	for _, page := range pages {
		r.done += fmt.Sprintf("Free(%d); ", page)
		if e := r.both(t, r.p.Free(page), r.m.freePage(page)); wrong == api.OK {
			wrong = e
		}
	}
	return wrong
}

func (r *pair) setRoot(t *testing.T, i, page int) api.Errno {
	t.Helper()
	r.done += fmt.Sprintf("SetRoot(%d, %d); ", i, page)
	return r.both(t, r.p.SetRoot(i, page), r.m.setRoot(i, page))
}

// stop lays a stop ahead of both.
func (r *pair) stop(t *testing.T, after int) {
	t.Helper()
	r.done += fmt.Sprintf("Stop(%d); ", after)
	r.both(t, r.f.Disk().Stop(after), r.m.c.File().Disk().Stop(after))
}

// checkIn checks both files in.
func (r *pair) checkIn(t *testing.T) api.Errno {
	t.Helper()
	r.done += "CheckIn; "
	return r.both(t, r.f.CheckIn(), r.m.c.File().CheckIn())
}

// pages holds what Pages goes over, as Read tells it.
func (r *pair) pages(t *testing.T) {
	t.Helper()
	r.done += "Pages; "
	var l []shown
	for at := 1; ; at++ {
		text, e := r.m.read(at)
		if e != api.OK {
			break
		}
		l = append(l, shown{at, text})
	}
	if got := gone(r.p.Pages()); !slices.Equal(got, l) {
		t.Fatalf("%sgoes over %v, not %v", r.done, got, l)
	}
	r.hold(t)
}

// again opens copies of the disk: there is what was committed. Of the pager that it tells no page but the first is at hand.
func (r *pair) again(t *testing.T, room int) *pair {
	t.Helper()
	var a *pair
	for range 2 {
		if a != nil {
			a.pages(t)
		}
		var e api.Errno
		a, e = over(t, r.f.Disk().Copy(), r.f.Plan(), room, r.m.last)
		ok(t, e)
		a.done = r.done + a.done
	}
	return a
}

// wantZero holds the file's size, and its page 0.
func (r *pair) wantZero(t *testing.T, size int, b []byte) {
	t.Helper()
	wantZero(t, r.done, r.f, size, b)
}

// wantZero holds a file's size, and its page 0.
func wantZero(t *testing.T, name string, f *file.File, size int, wanted []byte) {
	t.Helper()
	b, e := f.Read(0)
	ok(t, e)
	if f.Size() != size {
		t.Fatalf("%sthe file's size is %d, not %d", name, f.Size(), size)
	}
	for i, c := range b {
		if c != wanted[i] {
			t.Fatalf("%sbyte %d of page 0 is %x, not %x", name, i, c, wanted[i])
		}
	}
}

// wantRead holds what Read answers against the page with this first byte.
func (r *pair) wantRead(t *testing.T, at int, first byte) {
	t.Helper()
	if text, e := r.read(t, at); e != api.OK || text != string(page(first)) {
		t.Fatalf("%sis %v, %v", r.done, shown{at, text}, e)
	}
}

// wantBytes holds what Read answers against bytes.
func (r *pair) wantBytes(t *testing.T, at int, b []byte) {
	t.Helper()
	if text, e := r.read(t, at); e != api.OK || text != string(b) {
		t.Fatalf("%sis %v, %v", r.done, shown{at, text}, e)
	}
}

// wantTells holds the size, how many pages are free, whether there is a transaction.
func (r *pair) wantTells(t *testing.T, size, spare int, under bool) {
	t.Helper()
	if r.p.Size() != size || r.p.Spare() != spare || r.p.Under() != under {
		t.Fatalf("%stells %d %d %v, not %d %d %v", r.done, r.p.Size(), r.p.Spare(), r.p.Under(), size, spare, under)
	}
}

// wantRoots holds some roots, each number behind its place; the others are 0.
func (r *pair) wantRoots(t *testing.T, roots map[int]int) {
	t.Helper()
	for i := range 16 {
		if got, e := r.p.Root(i); got != roots[i] || e != api.OK {
			t.Fatalf("%shas root %d: %d, %v, not %d", r.done, i, got, e, roots[i])
		}
	}
}

// unchanged holds that something changes no sector of the disk, though stops may be laid.
func (r *pair) unchanged(t *testing.T, do func()) {
	t.Helper()
	was := r.f.Disk().Copy()
	do()
	r.hold(t)
	now := r.f.Disk().Copy()
	ok(t, was.Stop(99999), now.Stop(99999))
	if !disk.Same(was, now) {
		t.Fatalf("%sthe disk was changed", r.done)
	}
}

// shown is a page that was gone over.
type shown struct {
	page int
	text string
}

func (s shown) String() string {
	return fmt.Sprintf("page %d %x..", s.page, s.text[:min(4, len(s.text))])
}

// gone is what is gone over.
func gone(all iter.Seq2[int, []byte]) []shown {
	var l []shown
	for page, b := range all {
		l = append(l, shown{page, string(b)})
	}
	return l
}

// page is a page of other bytes each.
func page(first byte) []byte {
	var b []byte
	for i := range 512 {
		b = append(b, first+byte(7*i)+byte(i/64))
	}
	return b
}

// noughts is a page of them.
func noughts() []byte { return make([]byte, 512) }

// zero is a page 0.
func zero(first, many int, roots ...int) []byte {
	b := noughts()
	copy(b, "loupe001")
	binary.BigEndian.PutUint32(b[8:], uint32(first))
	binary.BigEndian.PutUint32(b[12:], uint32(many))
	for i, root := range roots {
		binary.BigEndian.PutUint32(b[16+4*i:], uint32(root))
	}
	return b
}

// freed is a free page.
func freed(next int) []byte {
	b := noughts()
	binary.BigEndian.PutUint32(b, uint32(next))
	return b
}

// small is a plan of few frames and pages.
var small = api.Plan{Frames: 4, Pages: 7}

// broad is a plan with room for more pages in a commit.
var broad = api.Plan{Frames: 9, Pages: 8}

// newDisk is a plan's: two heads, nine sectors a frame, eight a page.
func newDisk(t *testing.T, p api.Plan) *disk.Disk {
	t.Helper()
	d, e := disk.New(2 + 9*p.Frames + 8*p.Pages)
	ok(t, e)
	return d
}

// laid is a file of a small plan, of this size, with these pages.
func laid(t *testing.T, size int, w ...api.PageWrite) *file.File {
	t.Helper()
	f, e := file.Open(newDisk(t, small), small)
	ok(t, e, f.Commit(size, w...), f.CheckIn())
	return f
}

// at is a page that is written.
func at(page int, b []byte) api.PageWrite { return api.PageWrite{Page: page, Bytes: b} }

// filled is a pager of a plan whose pages 1 to 4 were made, and committed: 1 and 3 have these first bytes; 4 is free, and 2 ahead of it; two roots are set.
func filled(t *testing.T, plan api.Plan, room int) *pair {
	t.Helper()
	r := newPair(t, plan, 5)
	ok(t, r.begin(t))
	r.makes(t, 1, 2, 3)
	ok(t, r.commit(t), r.begin(t))
	r.makes(t, 4)
	ok(t, r.put(t, 11, 1), r.put(t, 13, 3), r.commit(t), r.begin(t))
	ok(t, r.free(t, 4, 2), r.setRoot(t, 0, 1), r.setRoot(t, 15, 3), r.commit(t), r.checkIn(t))
	a := r.again(t, room)
	a.wantTells(t, 5, 2, false)
	return a
}

// want holds an error against the one that is wanted.
func want(t *testing.T, name string, got, e api.Errno) {
	t.Helper()
	if got != e {
		t.Errorf("%s: %v, not %v", name, got, e)
	}
}

// ok holds that all went well.
func ok(t *testing.T, l ...api.Errno) {
	t.Helper()
	for i, e := range l {
		if e != api.OK {
			t.Fatalf("call %d: %v", i, e)
		}
	}
}
