package wal_test

import (
	"bytes"
	"encoding/binary"
	"fmt"
	"hash/crc32"
	"maps"
	"slices"
	"testing"

	"loupe/api"
	"loupe/disk"
	"loupe/wal"
)

// A log in another way: its sectors are laid by the library, what it writes is a list, and each frame that counts is kept.

// layHead tells what a head's sector is.
func layHead(h api.Head) []byte {
	b := binary.BigEndian.AppendUint64(nil, h.Serial)
	b = binary.BigEndian.AppendUint64(b, h.Epoch)
	b = binary.BigEndian.AppendUint32(b, uint32(h.Size))
	b = binary.BigEndian.AppendUint32(b, uint32(h.Count))
	b = binary.BigEndian.AppendUint32(b, crc32.ChecksumIEEE(b))
	return append(slices.Concat(b, b), make([]byte, 8)...)
}

// layFrame tells what a frame's sectors are, and its sum.
func layFrame(f api.Frame) ([]byte, uint32) {
	commit := byte(0)
	if f.Commit {
		commit = 1
	}
	b := binary.BigEndian.AppendUint64(nil, f.Epoch)
	b = binary.BigEndian.AppendUint32(b, uint32(f.Index))
	b = binary.BigEndian.AppendUint32(b, uint32(f.Page))
	b = append(b, commit)
	b = binary.BigEndian.AppendUint32(b, uint32(f.Size))
	b = binary.BigEndian.AppendUint32(b, f.Link)
	sum := crc32.ChecksumIEEE(slices.Concat(b, f.Bytes))
	b = binary.BigEndian.AppendUint32(b, sum)
	return slices.Concat(b, make([]byte, 35), f.Bytes), sum
}

// goodHead tells the head of a sector, if it is one's and lies where it has to.
func goodHead(at int, b []byte) (api.Head, bool) {
	h := api.Head{
		Serial: binary.BigEndian.Uint64(b),
		Epoch:  binary.BigEndian.Uint64(b[8:]),
		Size:   int(binary.BigEndian.Uint32(b[16:])),
		Count:  int(binary.BigEndian.Uint32(b[20:])),
	}
	return h, h.Size <= 2000 && h.Count <= 2000 && int(h.Serial&1) == at && bytes.Equal(b, layHead(h))
}

// goodFrame tells the frame of nine sectors, if they are one's.
func goodFrame(b []byte) (api.Frame, bool) {
	f := api.Frame{
		Epoch:  binary.BigEndian.Uint64(b),
		Index:  int(binary.BigEndian.Uint32(b[8:])),
		Page:   int(binary.BigEndian.Uint32(b[12:])),
		Commit: b[16] == 1,
		Size:   int(binary.BigEndian.Uint32(b[17:])),
		Link:   binary.BigEndian.Uint32(b[21:]),
		Bytes:  b[64:],
	}
	own, _ := layFrame(f)
	return f, f.Index <= 2000 && f.Page <= 2000 && f.Size <= 2000 && (f.Commit || f.Size == 0) && bytes.Equal(b, own)
}

// op is a sector that is written, or, without bytes, a sync.
type op struct {
	at int
	b  []byte
}

// ops is the writes of bytes, sector by sector.
func ops(at int, b []byte) []op {
	var l []op
	for s := range slices.Chunk(b, 64) {
		l = append(l, op{at + len(l), s})
	}
	return l
}

// run does them, up to the first one that is refused.
func run(d *disk.Disk, l []op) api.Errno {
	for _, o := range l {
		var e api.Errno
		if o.b == nil {
			e = d.Sync()
		} else {
			e = d.Write(o.at, o.b)
		}
		if e != api.OK {
			return e
		}
	}
	return api.OK
}

// model is a log.
type model struct {
	d      *disk.Disk
	p      api.Plan
	serial uint64
	epoch  uint64
	size   int
	l      []api.Frame // those that count
}

// openModel opens a disk of the plan.
func openModel(d *disk.Disk, p api.Plan) (*model, api.Errno) {
	var h api.Head
	found := false
	for at := range 2 {
		b, e := d.Read(at)
		if e != api.OK {
			return nil, e
		}
		if other, good := goodHead(at, b); good && (!found || other.Serial > h.Serial) {
			h, found = other, true
		}
	}
	m := &model{d: d, p: p}
	if !found {
		h = api.Head{Serial: 1, Epoch: 1}
		if e := run(d, []op{{1, layHead(h)}, {}}); e != api.OK {
			return nil, e
		}
	}
	if d.Stopped() {
		return nil, api.ErrStopped
	}
	m.serial, m.epoch, m.size = h.Serial, h.Epoch, h.Size
	m.look(h.Count)
	return m, api.OK
}

// look takes the frames that count.
func (m *model) look(count int) {
	var its []api.Frame
	link := uint32(0)
	for i := range min(count, m.p.Frames) {
		var b []byte
		for n := range 9 {
			s, _ := m.d.Read(2 + 9*i + n)
			b = append(b, s...)
		}
		f, good := goodFrame(b)
		if !good || f.Epoch != m.epoch || f.Index != i || f.Link != link {
			break
		}
		_, link = layFrame(f)
		its = append(its, f)
		if f.Commit {
			m.l, m.size = slices.Clone(its), f.Size
		}
	}
}

// frames is those that an append writes.
func (m *model) frames(size int, w []api.PageWrite) []api.Frame {
	link := uint32(0)
	if n := len(m.l); n > 0 {
		_, link = layFrame(m.l[n-1])
	}
	var l []api.Frame
	for i, p := range w {
		f := api.Frame{Epoch: m.epoch, Index: len(m.l) + i, Page: p.Page, Link: link, Bytes: bytes.Clone(p.Bytes)}
		if i == len(w)-1 {
			f.Commit, f.Size = true, size
		}
		l = append(l, f)
		_, link = layFrame(f)
	}
	return l
}

// appendOps is all that an append of frames does, in order.
func (m *model) appendOps(l []api.Frame) []op {
	var o []op
	for _, f := range l {
		b, _ := layFrame(f)
		o = append(o, ops(2+9*f.Index, b)...)
	}
	h := api.Head{Serial: m.serial + 1, Epoch: m.epoch, Size: m.size, Count: len(m.l) + len(l)}
	return append(o, op{}, op{int(h.Serial & 1), layHead(h)}, op{})
}

func (m *model) append(size int, w ...api.PageWrite) api.Errno {
	wrong := len(w) == 0 || size < 0 || size > m.p.Pages
	for _, p := range w {
		wrong = wrong || p.Page < 0 || p.Page >= m.p.Pages || len(p.Bytes) != 512
	}
	if wrong {
		return api.ErrArg
	}
	if len(m.l)+len(w) > m.p.Frames {
		return api.ErrFull
	}
	l := m.frames(size, w)
	e := run(m.d, m.appendOps(l))
	if e == api.OK {
		m.l, m.size = append(m.l, l...), size
		m.serial++
	}
	return e
}

func (m *model) reset() api.Errno {
	h := api.Head{Serial: m.serial + 1, Epoch: m.epoch + 1, Size: m.size}
	e := run(m.d, []op{{int(h.Serial & 1), layHead(h)}, {}})
	if e == api.OK {
		m.serial, m.epoch, m.l = h.Serial, h.Epoch, nil
	}
	return e
}

// pages is the last bytes of each page.
func (m *model) pages() map[int][]byte {
	l := map[int][]byte{}
	for _, f := range m.l {
		l[f.Page] = f.Bytes
	}
	return l
}

// state is what a log tells.
type state struct {
	size, many int
	epoch      uint64
	pages      map[int][]byte
}

func (s state) String() string {
	t := fmt.Sprintf("size %d, %d frames, epoch %d;", s.size, s.many, s.epoch)
	for _, page := range slices.Sorted(maps.Keys(s.pages)) {
		b := s.pages[page]
		t += fmt.Sprintf(" page %d %x..%x sum %x;", page, b[:2], b[510:], crc32.ChecksumIEEE(b))
	}
	return t
}

func (s state) same(o state) bool {
	return s.size == o.size && s.many == o.many && s.epoch == o.epoch && maps.EqualFunc(s.pages, o.pages, bytes.Equal)
}

func (m *model) state() state { return state{m.size, len(m.l), m.epoch, m.pages()} }

// told is a log's state as Size, Many, Epoch and Pages tell it.
func told(l *wal.Log) state {
	many, _ := l.Many()
	return state{l.Size(), many, l.Epoch(), maps.Collect(l.Pages())}
}

// alike tells what a log answers otherwise than its model; nothing, if there is nothing.
func alike(l *wal.Log, m *model) string {
	if got := told(l); !got.same(m.state()) {
		return fmt.Sprintf("tells %v, not %v", got, m.state())
	}
	if _, room := l.Many(); room != m.p.Frames-len(m.l) {
		return fmt.Sprintf("has room for %d", room)
	}
	for page := -2; page < m.p.Pages+2; page++ {
		want, is := m.pages()[page]
		if got, gotIs := l.Page(page); gotIs != is || !bytes.Equal(got, want) || is != (got != nil) {
			return fmt.Sprintf("tells page %d as %x, %v", page, got, gotIs)
		}
	}
	if !disk.Same(l.Disk(), m.d) {
		return "has another disk"
	}
	return ""
}

// pair is a log and its model, each on a disk of its own, and what was done to them.
type pair struct {
	l    *wal.Log
	m    *model
	done string
}

// opened opens a disk, and a copy of it as a model; both answer the same error. Its log is nil, if they answer one.
func opened(t *testing.T, d *disk.Disk, p api.Plan) (pair, api.Errno) {
	t.Helper()
	c := d.Copy()
	l, e := wal.Open(d, p)
	m, wantE := openModel(c, p)
	if e != wantE || (l == nil) != (m == nil) {
		t.Fatalf("Open is %v, %v, not %v", l, e, wantE)
	}
	if !disk.Same(c, d) {
		t.Fatalf("Open leaves another disk")
	}
	r := pair{l, m, fmt.Sprintf("Open(%v); ", p)}
	if e == api.OK {
		if l.Disk() != d {
			t.Fatalf("Disk is not the disk")
		}
		r.hold(t)
	}
	return r, e
}

// hold holds a log against its model.
func (p pair) hold(t *testing.T) {
	t.Helper()
	if wrong := alike(p.l, p.m); wrong != "" {
		t.Fatalf("%sthe log %s", p.done, wrong)
	}
}

// append appends to both.
func (p *pair) append(t *testing.T, size int, w ...api.PageWrite) api.Errno {
	t.Helper()
	p.done += fmt.Sprintf("Append(%d, %d pages); ", size, len(w))
	return p.both(t, p.l.Append(size, w...), p.m.append(size, w...))
}

// reset resets both.
func (p *pair) reset(t *testing.T) api.Errno {
	t.Helper()
	p.done += "Reset; "
	return p.both(t, p.l.Reset(), p.m.reset())
}

// stop lays a stop ahead of both.
func (p *pair) stop(t *testing.T, after int) {
	t.Helper()
	p.done += fmt.Sprintf("Stop(%d); ", after)
	p.both(t, p.l.Disk().Stop(after), p.m.d.Stop(after))
}

func (p *pair) both(t *testing.T, got, want api.Errno) api.Errno {
	t.Helper()
	if got != want {
		t.Fatalf("%sis %v, not %v", p.done, got, want)
	}
	p.hold(t)
	return got
}

// page is a page of other bytes each, so that it tells which of them are where.
func page(first byte) []byte {
	b := make([]byte, 512)
	for i := range b {
		b[i] = first + byte(i) + byte(i/256)*3
	}
	return b
}

// put is a page that is written.
func put(at int, first byte) api.PageWrite { return api.PageWrite{Page: at, Bytes: page(first)} }

// sectorsOf is how many sectors a plan's disk has.
func sectorsOf(p api.Plan) int { return 2 + 9*p.Frames + 8*p.Pages }

// newDisk is a plan's.
func newDisk(t *testing.T, p api.Plan) *disk.Disk {
	t.Helper()
	d, e := disk.New(sectorsOf(p))
	if e != api.OK {
		t.Fatalf("New is %v", e)
	}
	return d
}

// newPair is a log on a new disk.
func newPair(t *testing.T, p api.Plan) pair {
	t.Helper()
	r, e := opened(t, newDisk(t, p), p)
	want(t, "Open", e, api.OK)
	return r
}

// want holds errors against those that are wanted.
func want(t *testing.T, name string, got, e api.Errno) {
	t.Helper()
	if got != e {
		t.Errorf("%s: %v, not %v", name, got, e)
	}
}

// ok holds that all went well.
func ok(t *testing.T, l ...api.Errno) {
	t.Helper()
	for i, e := range l {
		want(t, fmt.Sprintf("call %d", i), e, api.OK)
	}
}

// wantState holds what a log tells against what is wanted.
func wantState(t *testing.T, name string, l *wal.Log, s state) {
	t.Helper()
	if got := told(l); !got.same(s) {
		t.Errorf("%s: tells %v, not %v", name, got, s)
	}
}
