package file_test

import (
	"bytes"
	"fmt"
	"iter"
	"slices"
	"strings"
	"testing"

	"loupe/api"
	"loupe/disk"
	"loupe/file"
	"loupe/wal"
)

// A file in another way: a log of layer 6, and sectors that are counted by hand.

// model is a file.
type model struct {
	d *disk.Disk
	p api.Plan
	l *wal.Log
}

// home is the first of a page's sectors.
func home(p api.Plan, page int) int { return 2 + 9*p.Frames + 8*page }

// sectorsOf is how many sectors a plan's disk has.
func sectorsOf(p api.Plan) int { return home(p, p.Pages) }

// read tells a page's bytes, each of its sectors for itself.
func (m *model) read(page int) (string, api.Errno) {
	if page < 0 || page >= m.p.Pages {
		return "", api.ErrRange
	}
	for logged, b := range m.l.Pages() {
		if logged == page {
			return string(b), api.OK
		}
	}
	var text strings.Builder
	for at := home(m.p, page); at < home(m.p, page+1); at++ {
		b, e := m.d.Read(at)
		if e != api.OK {
			return "", e
		}
		text.Write(b)
	}
	return text.String(), api.OK
}

// mayBe tells whether pages may be committed with a size.
func (m *model) mayBe(size int, w []api.PageWrite) bool {
	right := len(w) > 0 && 0 <= size && size <= m.p.Pages
	for _, p := range w {
		right = right && 0 <= p.Page && p.Page < m.p.Pages && len(p.Bytes) == 512
	}
	return right
}

func (m *model) commit(size int, w []api.PageWrite) api.Errno {
	_, room := m.l.Many()
	switch {
	case !m.mayBe(size, w):
		return api.ErrArg
	case len(w) > m.p.Frames:
		return api.ErrFull
	case len(w) > room:
		if e := m.checkIn(); e != api.OK {
			return e
		}
	}
	return m.l.Append(size, w...)
}

func (m *model) checkIn() api.Errno {
	for page := range m.p.Pages {
		b, is := m.l.Page(page)
		for at := home(m.p, page); is && len(b) > 0; at++ {
			if e := m.d.Write(at, b[:64]); e != api.OK {
				return e
			}
			b = b[64:]
		}
	}
	if e := m.d.Sync(); e != api.OK {
		return e
	}
	return m.l.Reset()
}

// held is what a file has: its size, and each page of its plan.
type held struct {
	size  int
	pages []string
}

// with is what is held behind a commit.
func (h held) with(size int, w ...api.PageWrite) held {
	h = held{size, slices.Clone(h.pages)}
	for _, p := range w {
		h.pages[p.Page] = string(p.Bytes)
	}
	return h
}

func (h held) same(o held) bool { return h.size == o.size && slices.Equal(h.pages, o.pages) }

func (h held) String() string {
	text := fmt.Sprintf("size %d;", h.size)
	for page, b := range h.pages {
		if strings.Trim(b, "\x00") != "" {
			text += fmt.Sprintf(" page %d %x..%x", page, b[:2], b[510:])
		}
	}
	return text
}

// nothing is what a new file has.
func nothing(p api.Plan) held {
	return held{0, slices.Repeat([]string{string(make([]byte, 512))}, p.Pages)}
}

// has is what a file that can be read has.
func has(t *testing.T, f *file.File) held {
	t.Helper()
	h := held{size: f.Size()}
	for page := range f.Plan().Pages {
		b, e := f.Read(page)
		want(t, fmt.Sprintf("Read(%d)", page), e, api.OK)
		h.pages = append(h.pages, string(b))
	}
	return h
}

// pair is a file and its model, each on a disk of its own, and what was done to them.
type pair struct {
	f    *file.File
	m    *model
	done string
}

// opened opens a disk, and a copy of it as a model; both answer the same error. Its file is nil, if they answer one.
func opened(t *testing.T, d *disk.Disk, p api.Plan) (*pair, api.Errno) {
	t.Helper()
	r := &pair{m: &model{d: d.Copy(), p: p}, done: fmt.Sprintf("Open(%v); ", p)}
	var e, wanted api.Errno
	r.f, e = file.Open(d, p)
	r.m.l, wanted = wal.Open(r.m.d, p)
	if e != wanted || (r.f == nil) == (e == api.OK) {
		t.Fatalf("Open is %v, %v, not %v", r.f, e, wanted)
	}
	if !disk.Same(d, r.m.d) {
		t.Fatalf("Open leaves another disk")
	}
	if e == api.OK {
		if r.f.Disk() != d {
			t.Fatalf("Disk is not the disk")
		}
		r.hold(t)
	}
	return r, e
}

// otherwise tells what a file answers otherwise than its model; nothing, if there is nothing.
func (r *pair) otherwise() string {
	if r.f.Size() != r.m.l.Size() || r.f.Plan() != r.m.p {
		return fmt.Sprintf("has size %d, plan %v", r.f.Size(), r.f.Plan())
	}
	var below []shown
	ended := false
	for page := -2; page < r.m.p.Pages+2; page++ {
		b, e := r.f.Read(page)
		text, wanted := r.m.read(page)
		if e != wanted || string(b) != text || e != api.OK && b != nil {
			return fmt.Sprintf("reads page %d as %x, %v, not %x, %v", page, b, e, text, wanted)
		}
		if page >= 0 && page < r.m.l.Size() {
			ended = ended || wanted != api.OK
			if !ended {
				below = append(below, shown{page, text})
			}
		}
	}
	if got := gone(r.f.All()); !slices.Equal(got, below) {
		return fmt.Sprintf("goes over %v, not %v", got, below)
	}
	if !disk.Same(r.f.Disk(), r.m.d) {
		return "has another disk"
	}
	return ""
}

// hold holds a file against its model.
func (r *pair) hold(t *testing.T) {
	t.Helper()
	if wrong := r.otherwise(); wrong != "" {
		t.Fatalf("%sthe file %s", r.done, wrong)
	}
}

// both holds what both answered.
func (r *pair) both(t *testing.T, got, wanted api.Errno) api.Errno {
	t.Helper()
	if got != wanted {
		t.Fatalf("%sis %v, not %v", r.done, got, wanted)
	}
	r.hold(t)
	return got
}

func (r *pair) commit(t *testing.T, size int, w ...api.PageWrite) api.Errno {
	t.Helper()
	r.done += fmt.Sprintf("Commit(%d, %d pages); ", size, len(w))
	return r.both(t, r.f.Commit(size, w...), r.m.commit(size, w))
}

func (r *pair) checkIn(t *testing.T) api.Errno {
	t.Helper()
	r.done += "CheckIn; "
	return r.both(t, r.f.CheckIn(), r.m.checkIn())
}

// stop lays a stop ahead of both.
func (r *pair) stop(t *testing.T, after int) {
	t.Helper()
	r.done += fmt.Sprintf("Stop(%d); ", after)
	r.both(t, r.f.Disk().Stop(after), r.m.d.Stop(after))
}

// onDisk does a thing to both disks.
func (r *pair) onDisk(t *testing.T, do func(d *disk.Disk) api.Errno) {
	t.Helper()
	r.done += "(on the disk); "
	ok(t, r.both(t, do(r.f.Disk()), do(r.m.d)))
}

// shown is a page that was gone over.
type shown struct {
	page int
	text string
}

func (s shown) String() string {
	return fmt.Sprintf("page %d %x..", s.page, s.text[:min(2, len(s.text))])
}

// gone is what is gone over.
func gone(all iter.Seq2[int, []byte]) []shown {
	var l []shown
	for page, b := range all {
		l = append(l, shown{page, string(b)})
	}
	return l
}

// page is a page of other bytes each, so that it tells which of its sectors are where.
func page(first byte) []byte {
	var b []byte
	for i := range 512 {
		b = append(b, first+byte(5*i)+byte(i/64))
	}
	return b
}

// put is a page that is written.
func put(at int, first byte) api.PageWrite { return api.PageWrite{Page: at, Bytes: page(first)} }

// puts is so many of them, the last pages first, so that they do not rise.
func puts(p api.Plan, many int) []api.PageWrite {
	var w []api.PageWrite
	for i := range many {
		w = append(w, put(p.Pages-1-i%p.Pages, byte(100+3*i)))
	}
	return w
}

// small is a plan of few frames and pages.
var small = api.Plan{Frames: 3, Pages: 4}

// newDisk is a plan's.
func newDisk(t *testing.T, p api.Plan) *disk.Disk {
	t.Helper()
	d, e := disk.New(sectorsOf(p))
	want(t, "New", e, api.OK)
	return d
}

// newPair is a file on a new disk.
func newPair(t *testing.T, p api.Plan) *pair {
	t.Helper()
	r, e := opened(t, newDisk(t, p), p)
	want(t, "Open", e, api.OK)
	return r
}

// want holds an error against the one that is wanted.
func want(t *testing.T, name string, got, e api.Errno) {
	t.Helper()
	if got != e {
		t.Errorf("%s: %v, not %v", name, got, e)
	}
}

// ok holds that all went well.
func ok(t *testing.T, l ...api.Errno) {
	t.Helper()
	for i, e := range l {
		if e != api.OK {
			t.Fatalf("call %d: %v", i, e)
		}
	}
}

// wantRead holds what Read answers against bytes.
func wantRead(t *testing.T, name string, f *file.File, page int, b []byte) {
	t.Helper()
	if got, e := f.Read(page); e != api.OK || !bytes.Equal(got, b) {
		t.Errorf("%s: Read(%d) is %x, %v", name, page, got, e)
	}
}
