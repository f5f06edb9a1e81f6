package disk_test

import (
	"bytes"
	"fmt"
	"math/rand"
	"reflect"
	"slices"
	"testing"

	"loupe/api"
	"loupe/disk"
)

// model is a disk in another way: all sectors as they were synced, and what was written since, in order.
type model struct {
	synced [][]byte
	loose  []laid
	left   int // -1 without a stop
}

// laid is a loose write.
type laid struct {
	at int
	b  []byte
}

func newModel(many int) *model {
	m := &model{left: -1}
	for range many {
		m.synced = append(m.synced, make([]byte, 64))
	}
	return m
}

func (m *model) bytes(at int) []byte {
	for _, l := range slices.Backward(m.loose) {
		if l.at == at {
			return l.b
		}
	}
	return m.synced[at]
}

func (m *model) read(at int) ([]byte, api.Errno) {
	switch {
	case at < 0 || at >= len(m.synced):
		return nil, api.ErrRange
	case m.left == 0:
		return nil, api.ErrStopped
	}
	return m.bytes(at), api.OK
}

func (m *model) write(at int, b []byte) api.Errno {
	switch {
	case len(b) != 64:
		return api.ErrArg
	case at < 0 || at >= len(m.synced):
		return api.ErrRange
	case m.left == 0:
		return api.ErrStopped
	}
	m.left = max(m.left-1, -1)
	m.loose = append(m.loose, laid{at, b})
	return api.OK
}

func (m *model) sync() api.Errno {
	if m.left == 0 {
		return api.ErrStopped
	}
	m.left = max(m.left-1, -1)
	for _, l := range m.loose {
		m.synced[l.at] = l.b
	}
	m.loose = nil
	return api.OK
}

func (m *model) stop(after int) api.Errno {
	if after < 0 {
		return api.ErrArg
	}
	m.left = after
	return api.OK
}

func (m *model) crash(tear int, keep ...bool) api.Errno {
	if tear < 0 || tear > 63 {
		return api.ErrArg
	}
	keep = append(slices.Clone(keep), make([]bool, len(m.loose))...)[:len(m.loose)]
	for i, l := range m.loose {
		b := l.b
		if tear > 0 && !slices.Contains(keep[i+1:], true) {
			b = slices.Concat(b[:tear], m.synced[l.at][tear:])
		}
		if keep[i] {
			m.synced[l.at] = b
		}
	}
	m.loose, m.left = nil, -1
	return api.OK
}

func (m *model) copy() *model {
	return &model{slices.Clone(m.synced), slices.Clone(m.loose), m.left}
}

// told tells a model's state, and same holds two against each other.
func (m *model) told() string { return fmt.Sprintf("%x %x %d", m.synced, m.loose, m.left) }

func (m *model) same(o *model) bool { return m.told() == o.told() }

// all is the sectors that are not noughts, rising.
func (m *model) all() []sector {
	var l []sector
	for at := range m.synced {
		if b := m.bytes(at); !bytes.Equal(b, make([]byte, 64)) {
			l = append(l, sector{at, b})
		}
	}
	return l
}

// step is something that is done to a disk, and to a model.
type step struct {
	name  string
	disk  func(*disk.Disk) api.Errno
	model func(*model) api.Errno
}

func stepWrite(at int, b []byte) step {
	return step{fmt.Sprintf("write %d %x", at, b),
		func(d *disk.Disk) api.Errno { return d.Write(at, b) },
		func(m *model) api.Errno { return m.write(at, b) }}
}

func stepSync() step {
	return step{"sync", (*disk.Disk).Sync, (*model).sync}
}

func stepStop(after int) step {
	return step{fmt.Sprintf("stop %d", after),
		func(d *disk.Disk) api.Errno { return d.Stop(after) },
		func(m *model) api.Errno { return m.stop(after) }}
}

func stepCrash(tear int, keep ...bool) step {
	return step{fmt.Sprintf("crash %d %v", tear, keep),
		func(d *disk.Disk) api.Errno { return d.Crash(tear, keep...) },
		func(m *model) api.Errno { return m.crash(tear, keep...) }}
}

// alike tells what a disk answers otherwise than its model; nothing, if there is nothing.
func alike(d *disk.Disk, m *model) string {
	if d.Len() != len(m.synced) || d.Loose() != len(m.loose) || d.Stopped() != (m.left == 0) {
		return fmt.Sprintf("Len %d, Loose %d, Stopped %v", d.Len(), d.Loose(), d.Stopped())
	}
	for at := -1; at <= len(m.synced); at++ {
		b, e := d.Read(at)
		want, wantE := m.read(at)
		if e != wantE || !bytes.Equal(b, want) {
			return fmt.Sprintf("Read(%d) %x, %v", at, b, e)
		}
	}
	if got := gone(d.All()); !reflect.DeepEqual(got, m.all()) {
		return fmt.Sprintf("All %x", got)
	}
	return ""
}

// pair is a disk and its model, and what was done to them.
type pair struct {
	d    *disk.Disk
	m    *model
	done string
}

func (p pair) copy() pair { return pair{p.d.Copy(), p.m.copy(), p.done} }

// do does a step to both.
func (p *pair) do(t *testing.T, s step) {
	t.Helper()
	p.done += s.name + "; "
	if got, want := s.disk(p.d), s.model(p.m); got != want {
		t.Fatalf("%s answers %v, not %v", p.done, got, want)
	}
	if wrong := alike(p.d, p.m); wrong != "" {
		t.Fatalf("%s tells %s, not %s", p.done, wrong, p.m.told())
	}
}

// steps is steps on two sectors, that come to the same states in many ways.
func steps() []step {
	noughts, few := make([]byte, 64), counted(1)
	return []step{
		stepWrite(0, counted(1)), stepWrite(0, counted(99)), stepWrite(0, noughts), stepWrite(1, few), stepWrite(2, few), stepWrite(0, few[:63]),
		stepSync(),
		stepStop(0), stepStop(1), stepStop(2), stepStop(-1),
		stepCrash(0), stepCrash(0, true), stepCrash(0, true, true, true), stepCrash(0, false, true), stepCrash(1, true), stepCrash(63, true, true), stepCrash(5, true, false, true, true), stepCrash(64, true),
	}
}

// reach is what all runs of so many steps come to, each on copies of those ahead.
func reach(t *testing.T, from []pair, deep int) []pair {
	l := from
	for range deep {
		var next []pair
		for _, p := range l {
			was := p.m.told()
			for _, s := range steps() {
				c := p.copy()
				c.do(t, s)
				next = append(next, c)
			}
			if wrong := alike(p.d, p.m); wrong != "" || p.m.told() != was {
				t.Fatalf("%sits copies changed it: %s", p.done, wrong)
			}
		}
		l = next
	}
	return l
}

// P4.1, P4.2, P4.3: all runs of four steps are as in the model.
func TestRuns(t *testing.T) {
	reach(t, []pair{{newDisk(t, 2), newModel(2), ""}}, 4)
}

// P4.3: disks are the same, if and only if their models are.
func TestSameRuns(t *testing.T) {
	l := reach(t, []pair{{newDisk(t, 2), newModel(2), ""}}, 2)
	l = append(l, reach(t, []pair{{newDisk(t, 3), newModel(3), ""}}, 1)...)
	for _, a := range l {
		for _, b := range l {
			if got, want := disk.Same(a.d, b.d), a.m.same(b.m); got != want {
				t.Fatalf("Same of %sand of %sis %v", a.done, b.done, got)
			}
		}
	}
}

// P4.1, P4.2, P4.3: long runs on more sectors are as in the model, too.
func TestLongRuns(t *testing.T) {
	for seed := range int64(40) {
		r := rand.New(rand.NewSource(seed))
		p := pair{newDisk(t, 5), newModel(5), ""}
		for range 300 {
			p.done = ""
			p.do(t, someStep(r))
			if r.Intn(20) == 0 {
				p = p.copy()
			}
		}
	}
}

func someStep(r *rand.Rand) step {
	switch n := r.Intn(100); {
	case n < 70:
		return stepWrite(r.Intn(5), bytes.Repeat([]byte{byte(r.Intn(4))}, 64))
	case n < 80:
		return stepSync()
	case n < 84:
		return stepStop(r.Intn(12))
	case n < 98:
		keep := make([]bool, r.Intn(12))
		for i := range keep {
			keep[i] = r.Intn(2) == 0
		}
		return stepCrash(r.Intn(64), keep...)
	default:
		return stepWrite(r.Intn(9)-2, make([]byte, 63+r.Intn(3)))
	}
}
