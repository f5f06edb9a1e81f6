package disk_test

import (
	"bytes"
	"iter"
	"math"
	"reflect"
	"slices"
	"testing"

	"loupe/api"
	"loupe/disk"
)

// sector is one that All tells.
type sector struct {
	at int
	b  []byte
}

// gone is all that an iterator goes over.
func gone(all iter.Seq2[int, []byte]) []sector {
	var l []sector
	for at, b := range all {
		l = append(l, sector{at, b})
	}
	return l
}

// filled is a sector of one byte.
func filled(c byte) []byte { return bytes.Repeat([]byte{c}, 64) }

// counted is a sector of other bytes each, so that it tells which of them are where.
func counted(first byte) []byte {
	b := make([]byte, 64)
	for i := range b {
		b[i] = first + byte(i)
	}
	return b
}

func newDisk(t *testing.T, many int) *disk.Disk {
	t.Helper()
	d, e := disk.New(many)
	if d == nil || e != api.OK {
		t.Fatalf("New(%d) is %v, %v", many, d, e)
	}
	return d
}

// want holds errors against those that are wanted.
func want(t *testing.T, name string, got, e api.Errno) {
	t.Helper()
	if got != e {
		t.Errorf("%s: %v, not %v", name, got, e)
	}
}

// wantRead holds a sector's bytes against those that are wanted.
func wantRead(t *testing.T, d *disk.Disk, at int, b []byte) {
	t.Helper()
	if got, e := d.Read(at); e != api.OK || !bytes.Equal(got, b) {
		t.Errorf("Read(%d) is %x, %v, not %x", at, got, e, b)
	}
}

// wantRefused holds that a sector is not read.
func wantRefused(t *testing.T, d *disk.Disk, at int, e api.Errno) {
	t.Helper()
	if got, gotE := d.Read(at); gotE != e || got != nil {
		t.Errorf("Read(%d) is %x, %v, not %v", at, got, gotE, e)
	}
}

// wantAll holds what All goes over against what is wanted.
func wantAll(t *testing.T, all iter.Seq2[int, []byte], l ...sector) {
	t.Helper()
	if got := gone(all); !reflect.DeepEqual(got, l) {
		t.Errorf("All goes over %x, not %x", got, l)
	}
}

// ok holds that all went well.
func ok(t *testing.T, l ...api.Errno) {
	t.Helper()
	for i, e := range l {
		want(t, string(rune('a'+i)), e, api.OK)
	}
}

// P4.1
func TestNew(t *testing.T) {
	for _, many := range []int{0, -1, -64, 40001, 80000, math.MinInt, math.MaxInt} {
		if d, e := disk.New(many); d != nil || e != api.ErrArg {
			t.Errorf("New(%d) is %v, %v", many, d, e)
		}
	}
	for _, many := range []int{1, 2, 64, 39999, 40000} {
		d := newDisk(t, many)
		wantRead(t, d, 0, filled(0))
		wantRead(t, d, many-1, filled(0))
		wantRefused(t, d, many, api.ErrRange)
		wantAll(t, d.All())
		if d.Len() != many || d.Loose() != 0 || d.Stopped() {
			t.Errorf("a new disk of %d: %d, %d, %v", many, d.Len(), d.Loose(), d.Stopped())
		}
	}
}

// P4.1: new disks are apart.
func TestNewApart(t *testing.T) {
	a, b := newDisk(t, 2), newDisk(t, 2)
	ok(t, a.Write(0, filled(1)), a.Sync(), a.Write(1, filled(2)), a.Stop(0))
	wantRead(t, b, 0, filled(0))
	wantRead(t, b, 1, filled(0))
	if b.Loose() != 0 || b.Stopped() {
		t.Errorf("a disk changed another one")
	}
}

// P4.1, P4.3: all sectors of the greatest disk.
func TestGreatest(t *testing.T) {
	d := newDisk(t, 40000)
	of := func(at int) []byte { return append([]byte{1, byte(at >> 8), byte(at)}, make([]byte, 61)...) }
	for at := 39999; at >= 0; at-- {
		want(t, "Write", d.Write(at, of(at)), api.OK)
	}
	if d.Loose() != 40000 {
		t.Errorf("Loose is %d", d.Loose())
	}
	c := d.Copy()
	ok(t, d.Sync(), d.Crash(0), c.Crash(0, true))
	next := 0
	for at, b := range d.All() {
		if at != next || !bytes.Equal(b, of(at)) {
			t.Fatalf("All tells %d, %x at %d", at, b, next)
		}
		next++
	}
	if next != 40000 {
		t.Errorf("All goes over %d", next)
	}
	wantAll(t, c.All(), sector{39999, of(39999)})
}

// P4.1
func TestReadWriteSync(t *testing.T) {
	d := newDisk(t, 3)
	ok(t, d.Write(1, counted(1)))
	wantRead(t, d, 0, filled(0))
	wantRead(t, d, 1, counted(1))
	wantRead(t, d, 2, filled(0))
	ok(t, d.Write(2, filled(2)), d.Write(1, filled(3)))
	wantRead(t, d, 1, filled(3))
	if d.Loose() != 3 {
		t.Errorf("Loose is %d", d.Loose())
	}
	ok(t, d.Sync())
	wantRead(t, d, 0, filled(0))
	wantRead(t, d, 1, filled(3))
	wantRead(t, d, 2, filled(2))
	if d.Loose() != 0 {
		t.Errorf("Loose is %d behind Sync", d.Loose())
	}
	ok(t, d.Sync(), d.Write(1, filled(0)))
	wantRead(t, d, 1, filled(0))
	ok(t, d.Crash(0))
	wantRead(t, d, 1, filled(3))
}

// P4.1
func TestOneSector(t *testing.T) {
	d := newDisk(t, 1)
	ok(t, d.Write(0, counted(9)))
	wantRead(t, d, 0, counted(9))
	wantRefused(t, d, 1, api.ErrRange)
	want(t, "Write beyond", d.Write(1, filled(1)), api.ErrRange)
	wantAll(t, d.All(), sector{0, counted(9)})
}

// P4.1: what is refused, and that it changes nothing.
func TestRefused(t *testing.T) {
	d := newDisk(t, 2)
	ok(t, d.Write(0, filled(1)), d.Sync(), d.Write(1, filled(2)), d.Stop(3))
	was := d.Copy()
	for _, at := range []int{-1, -2, 2, 3, 64, 40000, math.MinInt, math.MaxInt} {
		wantRefused(t, d, at, api.ErrRange)
		want(t, "Write beyond", d.Write(at, filled(9)), api.ErrRange)
		want(t, "Write beyond of too few", d.Write(at, filled(9)[:63]), api.ErrArg)
	}
	for _, many := range []int{0, 1, 63, 65, 128, 512} {
		want(t, "Write of other bytes", d.Write(0, make([]byte, many)), api.ErrArg)
	}
	want(t, "Write of nil", d.Write(0, nil), api.ErrArg)
	for _, n := range []int{-1, -3, math.MinInt} {
		want(t, "Stop", d.Stop(n), api.ErrArg)
	}
	for _, n := range []int{-1, -64, 64, 65, math.MinInt, math.MaxInt} {
		want(t, "Crash", d.Crash(n, true), api.ErrArg)
	}
	if !disk.Same(d, was) {
		t.Errorf("what was refused changed the disk")
	}
}

// P4.1, P4.2: on a disk that has stopped, what may not be is told first.
func TestRefusedStopped(t *testing.T) {
	d := newDisk(t, 2)
	ok(t, d.Stop(0))
	want(t, "Write", d.Write(2, filled(1)[:63]), api.ErrArg)
	want(t, "Write", d.Write(0, append(filled(1), 1)), api.ErrArg)
	want(t, "Write", d.Write(-1, filled(1)), api.ErrRange)
	want(t, "Write", d.Write(2, filled(1)), api.ErrRange)
	want(t, "Write", d.Write(1, filled(1)), api.ErrStopped)
	wantRefused(t, d, -1, api.ErrRange)
	wantRefused(t, d, 2, api.ErrRange)
	wantRefused(t, d, 1, api.ErrStopped)
	want(t, "Sync", d.Sync(), api.ErrStopped)
	want(t, "Stop", d.Stop(-1), api.ErrArg)
	want(t, "Crash", d.Crash(-1), api.ErrArg)
	want(t, "Crash", d.Crash(64), api.ErrArg)
	if !d.Stopped() || d.Loose() != 0 || d.Len() != 2 {
		t.Errorf("what was refused changed the disk")
	}
}

// P4.1, P4.3: what is handed in is not kept, and what is answered is new.
func TestApart(t *testing.T) {
	d := newDisk(t, 2)
	room := append(counted(1), counted(101)...)
	ok(t, d.Write(0, room[:64]))
	if !bytes.Equal(room, append(counted(1), counted(101)...)) {
		t.Errorf("Write changed its bytes")
	}
	clear(room)
	wantRead(t, d, 0, counted(1))
	for range 2 {
		b, _ := d.Read(0)
		clear(b)
		_ = append(b, filled(8)...)
		wantRead(t, d, 0, counted(1))
		for _, b := range d.All() {
			clear(b)
			_ = append(b, filled(8)...)
		}
		wantRead(t, d, 0, counted(1))
		ok(t, d.Crash(0, true))
	}
	all := d.All()
	for _, b := range all {
		clear(b)
	}
	wantAll(t, all, sector{0, counted(1)})
	first, second := gone(all), gone(all)
	one, _ := d.Read(0)
	other, _ := d.Read(0)
	none, _ := d.Read(1)
	clear(first[0].b)
	clear(one)
	copy(none, filled(9))
	if !bytes.Equal(second[0].b, counted(1)) || !bytes.Equal(other, counted(1)) {
		t.Errorf("two answers share their bytes")
	}
	wantRead(t, d, 1, filled(0))
	keep := []bool{true, false, true, true}
	ok(t, d.Write(1, filled(2)), d.Crash(7, keep[:2]...))
	if !slices.Equal(keep, []bool{true, false, true, true}) {
		t.Errorf("Crash changed its truths")
	}
}

// P4.2
func TestStop(t *testing.T) {
	for after := range 6 {
		d := newDisk(t, 2)
		ok(t, d.Stop(after))
		for i := range after {
			if d.Stopped() {
				t.Errorf("Stop(%d): stopped behind %d", after, i)
			}
			wantRead(t, d, 1, filled(0))
			if i%2 == 0 {
				ok(t, d.Write(0, filled(byte(i+1))))
			} else {
				ok(t, d.Sync())
			}
		}
		if !d.Stopped() {
			t.Errorf("Stop(%d): not stopped", after)
		}
		loose := d.Loose()
		want(t, "Write", d.Write(0, filled(9)), api.ErrStopped)
		want(t, "Sync", d.Sync(), api.ErrStopped)
		wantRefused(t, d, 0, api.ErrStopped)
		if d.Loose() != loose || !d.Stopped() {
			t.Errorf("Stop(%d): something was done behind the stop", after)
		}
	}
}

// P4.2: what is refused for its arguments, what only asks, and Read do not count.
func TestStopCounts(t *testing.T) {
	d := newDisk(t, 2)
	ok(t, d.Stop(2))
	for range 5 {
		want(t, "Write", d.Write(2, filled(1)), api.ErrRange)
		want(t, "Write", d.Write(-1, filled(1)), api.ErrRange)
		want(t, "Write", d.Write(0, nil), api.ErrArg)
		want(t, "Crash", d.Crash(64), api.ErrArg)
		want(t, "Stop", d.Stop(-1), api.ErrArg)
		wantRefused(t, d, 2, api.ErrRange)
		wantRead(t, d, 0, filled(0))
		_, _, _, _ = d.Loose(), d.Len(), d.Copy(), gone(d.All())
	}
	ok(t, d.Write(0, filled(0)))
	if d.Stopped() {
		t.Errorf("stopped behind one of two")
	}
	ok(t, d.Sync())
	if !d.Stopped() {
		t.Errorf("not stopped behind two of two")
	}
}

// P4.2: a stop in the place of another one, also of one that was come to.
func TestStopAgain(t *testing.T) {
	d := newDisk(t, 1)
	ok(t, d.Stop(1), d.Stop(2), d.Write(0, filled(1)), d.Write(0, filled(2)))
	want(t, "Write", d.Write(0, filled(3)), api.ErrStopped)
	ok(t, d.Stop(1))
	if d.Stopped() {
		t.Errorf("stopped, with a stop ahead in the place of another one")
	}
	wantRead(t, d, 0, filled(2))
	ok(t, d.Sync())
	want(t, "Sync", d.Sync(), api.ErrStopped)
	ok(t, d.Stop(5), d.Stop(0))
	if !d.Stopped() {
		t.Errorf("not stopped behind Stop(0)")
	}
	ok(t, d.Stop(math.MaxInt), d.Sync())
	if d.Stopped() {
		t.Errorf("stopped, with a huge number ahead")
	}
}

// P4.2: a crash leaves no stop, neither ahead nor come to.
func TestCrashStop(t *testing.T) {
	for _, after := range []int{0, 1} {
		d := newDisk(t, 1)
		ok(t, d.Stop(after), d.Crash(0))
		if d.Stopped() {
			t.Errorf("stopped behind a crash")
		}
		ok(t, d.Write(0, filled(1)), d.Sync(), d.Sync())
		wantRead(t, d, 0, filled(1))
	}
}

// looseDisk is a disk of 4 sectors; what is loose are three writes: to 0, to 1, and to 0 again.
func looseDisk(t *testing.T) *disk.Disk {
	t.Helper()
	d := newDisk(t, 4)
	ok(t, d.Write(0, filled(10)), d.Write(3, filled(13)), d.Sync())
	ok(t, d.Write(0, filled(20)), d.Write(1, filled(21)), d.Write(0, filled(30)))
	return d
}

// torn is so many bytes, and others up to the end.
func torn(many int, first, last byte) []byte {
	return slices.Concat(filled(first)[:many], filled(last)[many:])
}

// P4.2
func TestCrash(t *testing.T) {
	for _, c := range []struct {
		tear      int
		keep      []bool
		zero, one []byte
	}{
		{0, nil, filled(10), filled(0)},
		{0, []bool{}, filled(10), filled(0)},
		{9, nil, filled(10), filled(0)},
		{0, []bool{true}, filled(20), filled(0)},
		{0, []bool{false, true}, filled(10), filled(21)},
		{0, []bool{true, true}, filled(20), filled(21)},
		{0, []bool{false, false, true}, filled(30), filled(0)},
		{0, []bool{true, true, true}, filled(30), filled(21)},
		{0, []bool{true, false, true, true, true}, filled(30), filled(0)},
		{0, []bool{false, false, false, true, true}, filled(10), filled(0)},
		{1, []bool{false, false, false, true, true}, filled(10), filled(0)},
		{1, []bool{true}, torn(1, 20, 10), filled(0)},
		{63, []bool{true}, torn(63, 20, 10), filled(0)},
		{1, []bool{true, true}, filled(20), torn(1, 21, 0)},
		{63, []bool{true, true}, filled(20), torn(63, 21, 0)},
		{63, []bool{true, true, false}, filled(20), torn(63, 21, 0)},
		{1, []bool{true, true, true}, torn(1, 30, 20), filled(21)},
		{63, []bool{true, true, true}, torn(63, 30, 20), filled(21)},
		{32, []bool{false, true, true}, torn(32, 30, 10), filled(21)},
		{1, []bool{true, false, false, true}, torn(1, 20, 10), filled(0)},
		{5, []bool{true, true, true, true, true, false}, torn(5, 30, 20), filled(21)},
	} {
		for range 2 {
			d := looseDisk(t)
			ok(t, d.Stop(0), d.Crash(c.tear, c.keep...))
			if d.Loose() != 0 || d.Stopped() || d.Len() != 4 {
				t.Errorf("Crash(%d, %v): %d loose, stopped: %v", c.tear, c.keep, d.Loose(), d.Stopped())
			}
			for range 2 {
				wantRead(t, d, 0, c.zero)
				wantRead(t, d, 1, c.one)
				wantRead(t, d, 2, filled(0))
				wantRead(t, d, 3, filled(13))
				ok(t, d.Crash(0, true, true, true))
			}
		}
	}
}

// P4.2: each Write is one, also where nothing is changed by it.
func TestCrashSameBytes(t *testing.T) {
	d := newDisk(t, 2)
	ok(t, d.Write(0, filled(1)), d.Write(0, filled(1)), d.Write(1, filled(0)), d.Write(1, filled(2)))
	if d.Loose() != 4 {
		t.Errorf("Loose is %d", d.Loose())
	}
	ok(t, d.Crash(1, false, true, true))
	wantRead(t, d, 0, filled(1))
	wantRead(t, d, 1, filled(0))
	ok(t, d.Write(0, filled(1)), d.Write(0, filled(2)), d.Crash(1, true, true))
	wantRead(t, d, 0, torn(1, 2, 1))
}

// P4.2: a tear at each place.
func TestTears(t *testing.T) {
	for tear := range 64 {
		d := newDisk(t, 2)
		ok(t, d.Write(1, counted(1)), d.Sync(), d.Write(0, counted(50)), d.Write(1, counted(100)), d.Crash(tear, true, true))
		wantRead(t, d, 0, counted(50))
		if tear == 0 {
			wantRead(t, d, 1, counted(100))
		} else {
			wantRead(t, d, 1, slices.Concat(counted(100)[:tear], counted(1)[tear:]))
		}
	}
}

// P4.2: the document's example.
func TestExample(t *testing.T) {
	d := newDisk(t, 2)
	ok(t, d.Write(0, filled(7)), d.Stop(0))
	want(t, "Write", d.Write(1, filled(7)), api.ErrStopped)
	ok(t, d.Crash(10, true))
	wantRead(t, d, 0, torn(10, 7, 0))
}

// P4.3
func TestLooseLen(t *testing.T) {
	d := newDisk(t, 7)
	for i := range 20 {
		if d.Loose() != i || d.Len() != 7 {
			t.Errorf("%d loose, %d sectors behind %d writes", d.Loose(), d.Len(), i)
		}
		ok(t, d.Write(i%2, filled(1)))
	}
	ok(t, d.Stop(0))
	if d.Loose() != 20 || d.Len() != 7 {
		t.Errorf("%d loose, %d sectors behind a stop", d.Loose(), d.Len())
	}
	ok(t, d.Stop(1), d.Sync())
	if d.Loose() != 0 {
		t.Errorf("%d loose behind Sync", d.Loose())
	}
}

// P4.3
func TestAll(t *testing.T) {
	d := newDisk(t, 30)
	last := append(make([]byte, 63), 1)
	ok(t, d.Write(20, filled(2)), d.Write(3, filled(3)), d.Write(29, last), d.Write(0, counted(1)), d.Write(11, filled(4)), d.Sync(), d.Write(12, filled(5)), d.Write(3, filled(6)))
	l := []sector{{0, counted(1)}, {3, filled(6)}, {11, filled(4)}, {12, filled(5)}, {20, filled(2)}, {29, last}}
	wantAll(t, d.All(), l...)
	ok(t, d.Stop(0))
	wantAll(t, d.All(), l...)
	ok(t, d.Crash(0))
	wantAll(t, d.All(), l[0], sector{3, filled(3)}, l[2], l[4], l[5])
}

// P4.3: sectors that are noughts again, loose, synced, and behind crashes.
func TestAllNoughts(t *testing.T) {
	d := newDisk(t, 3)
	ok(t, d.Write(1, filled(0)))
	wantAll(t, d.All())
	ok(t, d.Write(1, filled(1)), d.Write(2, filled(2)), d.Sync(), d.Write(1, filled(0)))
	wantAll(t, d.All(), sector{2, filled(2)})
	ok(t, d.Crash(0))
	wantAll(t, d.All(), sector{1, filled(1)}, sector{2, filled(2)})
	ok(t, d.Write(1, filled(0)), d.Crash(0, true))
	wantAll(t, d.All(), sector{2, filled(2)})
	ok(t, d.Write(2, filled(0)), d.Sync(), d.Crash(0), d.Write(0, filled(1)), d.Crash(0))
	wantAll(t, d.All())
	if !disk.Same(d, newDisk(t, 3)) {
		t.Errorf("a disk of noughts is not as a new one")
	}
}

// P4.3: left early, gone over again, within itself, and as it was when it was asked for.
func TestAllAgain(t *testing.T) {
	d := newDisk(t, 5)
	for at := range 4 {
		ok(t, d.Write(at, filled(byte(at+1))))
	}
	l := []sector{{0, filled(1)}, {1, filled(2)}, {2, filled(3)}, {3, filled(4)}}
	all := d.All()
	ok(t, d.Write(0, filled(9)), d.Write(1, filled(0)), d.Write(4, filled(9)), d.Sync())
	for many := 1; many <= 4; many++ {
		var first []sector
		for at, b := range all {
			if first = append(first, sector{at, b}); len(first) == many {
				break
			}
		}
		if !reflect.DeepEqual(first, l[:many]) {
			t.Errorf("the first %d are %x", many, first)
		}
	}
	wantAll(t, all, l...)
	for range all {
		wantAll(t, all, l...)
		ok(t, d.Crash(0), d.Write(2, filled(0)), d.Sync())
	}
	wantAll(t, all, l...)
	wantAll(t, d.All(), sector{0, filled(9)}, sector{3, filled(4)}, sector{4, filled(9)})
}

// P4.3
func TestCopy(t *testing.T) {
	d := looseDisk(t)
	ok(t, d.Stop(3))
	c := d.Copy()
	was := c.Copy()
	if c == d || !disk.Same(c, d) {
		t.Errorf("a copy is not as its disk")
	}
	ok(t, d.Write(0, filled(40)), d.Write(2, filled(42)), d.Sync())
	if !disk.Same(c, was) || !d.Stopped() || c.Stopped() || c.Loose() != 3 {
		t.Errorf("what was done to a disk changed its copy")
	}
	ok(t, c.Write(1, filled(51)), d.Stop(9))
	wantRead(t, d, 1, filled(21))
	wantRead(t, c, 1, filled(51))
	ok(t, d.Crash(0), c.Crash(0, true))
	wantRead(t, d, 0, filled(40))
	wantRead(t, d, 2, filled(42))
	wantRead(t, c, 0, filled(20))
	wantRead(t, c, 1, filled(0))
	wantRead(t, c, 2, filled(0))
	ok(t, was.Stop(1), was.Sync())
	wantRead(t, d, 0, filled(40))
	wantRead(t, c, 0, filled(20))
}

// P4.3: two disks that both write on behind the same loose writes.
func TestCopyLoose(t *testing.T) {
	for many := range 9 {
		d := newDisk(t, 10)
		for at := range many {
			ok(t, d.Write(at, filled(1)))
		}
		c := d.Copy()
		ok(t, d.Write(many, filled(2)), c.Write(many, filled(3)))
		keep := make([]bool, many+1)
		keep[many] = true
		ok(t, d.Crash(0, keep...), c.Crash(0, keep...))
		wantAll(t, d.All(), sector{many, filled(2)})
		wantAll(t, c.All(), sector{many, filled(3)})
	}
}

// P4.3: disks that differ in one thing alone.
func TestSame(t *testing.T) {
	made := func(do func(d *disk.Disk)) *disk.Disk {
		d := looseDisk(t)
		do(d)
		return d
	}
	less := newDisk(t, 3)
	more := newDisk(t, 5)
	for _, d := range []*disk.Disk{less, more} {
		ok(t, d.Write(0, filled(10)), d.Sync(), d.Write(0, filled(20)), d.Write(1, filled(21)), d.Write(0, filled(30)))
	}
	order := newDisk(t, 4)
	ok(t, order.Write(0, filled(10)), order.Write(3, filled(13)), order.Sync(), order.Write(1, filled(21)), order.Write(0, filled(20)), order.Write(0, filled(30)))
	synced := newDisk(t, 4)
	ok(t, synced.Write(0, filled(11)), synced.Write(3, filled(13)), synced.Sync(), synced.Write(0, filled(20)), synced.Write(1, filled(21)), synced.Write(0, filled(30)))
	early := newDisk(t, 4)
	ok(t, early.Write(0, filled(10)), early.Write(3, filled(13)), early.Sync(), early.Write(0, filled(25)), early.Write(1, filled(21)), early.Write(0, filled(30)))
	once := newDisk(t, 4)
	ok(t, once.Write(0, filled(10)), once.Write(3, filled(13)), once.Sync(), once.Write(1, filled(21)), once.Write(0, filled(30)))
	for name, d := range map[string]*disk.Disk{
		"less sectors":               less,
		"more sectors":               more,
		"loose writes in order":      order,
		"what was synced":            synced,
		"a loose write beneath":      early,
		"a loose write less":         once,
		"a loose write more":         made(func(d *disk.Disk) { d.Write(0, filled(30)) }),
		"a loose write of noughts":   made(func(d *disk.Disk) { d.Write(2, filled(0)) }),
		"all synced":                 made(func(d *disk.Disk) { d.Sync() }),
		"a crash":                    made(func(d *disk.Disk) { d.Crash(0) }),
		"a crash that keeps all":     made(func(d *disk.Disk) { d.Crash(0, true, true, true) }),
		"another sector":             made(func(d *disk.Disk) { d.Write(2, filled(1)) }),
		"a stop ahead":               made(func(d *disk.Disk) { d.Stop(2) }),
		"a stop":                     made(func(d *disk.Disk) { d.Stop(0) }),
		"none":                       nil,
		"one that New did not make":  new(disk.Disk),
		"a new one":                  newDisk(t, 4),
		"a stop ahead, and all gone": made(func(d *disk.Disk) { d.Stop(1); d.Crash(0) }),
	} {
		if disk.Same(d, looseDisk(t)) || disk.Same(looseDisk(t), d) {
			t.Errorf("a disk is as one with another thing: %s", name)
		}
	}
	if d := looseDisk(t); !disk.Same(d, d) || !disk.Same(d, looseDisk(t)) {
		t.Errorf("a disk is not as itself")
	}
}

// P4.3: stops alone.
func TestSameStops(t *testing.T) {
	stopped := func(after, done int) *disk.Disk {
		d := newDisk(t, 1)
		if after >= 0 {
			ok(t, d.Stop(after))
		}
		for range done {
			ok(t, d.Sync())
		}
		return d
	}
	for _, c := range []struct {
		a, b *disk.Disk
		want bool
	}{
		{stopped(-1, 0), stopped(-1, 3), true},
		{stopped(-1, 0), stopped(0, 0), false},
		{stopped(-1, 0), stopped(1, 0), false},
		{stopped(-1, 1), stopped(1, 1), false},
		{stopped(1, 0), stopped(2, 0), false},
		{stopped(1, 0), stopped(2, 1), true},
		{stopped(0, 0), stopped(2, 2), true},
		{stopped(3, 1), stopped(3, 2), false},
	} {
		if disk.Same(c.a, c.b) != c.want || disk.Same(c.b, c.a) != c.want {
			t.Errorf("Same is not %v", c.want)
		}
	}
}

// P4.1, P4.2, P4.3: no disk, and one that New did not make.
func TestNone(t *testing.T) {
	for _, d := range []*disk.Disk{nil, {}} {
		for range 2 {
			wantRefused(t, d, 0, api.ErrNil)
			wantRefused(t, d, -1, api.ErrNil)
			want(t, "Write", d.Write(0, filled(1)), api.ErrNil)
			want(t, "Write", d.Write(-1, nil), api.ErrNil)
			want(t, "Sync", d.Sync(), api.ErrNil)
			want(t, "Stop", d.Stop(0), api.ErrNil)
			want(t, "Stop", d.Stop(-1), api.ErrNil)
			want(t, "Crash", d.Crash(0, true), api.ErrNil)
			want(t, "Crash", d.Crash(64), api.ErrNil)
			if d.Stopped() || d.Loose() != 0 || d.Len() != 0 || d.Copy() != nil {
				t.Errorf("no disk tells something")
			}
			wantAll(t, d.All())
			if disk.Same(d, newDisk(t, 1)) || disk.Same(newDisk(t, 1), d) {
				t.Errorf("no disk is as one")
			}
			if !disk.Same(d, nil) || !disk.Same(nil, d) || !disk.Same(d, &disk.Disk{}) {
				t.Errorf("no disk is not as none")
			}
		}
	}
}

// keeps is all truths of so many.
func keeps(many int) [][]bool {
	var l [][]bool
	for bits := range 1 << many {
		keep := make([]bool, many)
		for i := range keep {
			keep[i] = bits>>i&1 == 1
		}
		l = append(l, keep)
	}
	return l
}

// P4.4: behind each crash what was synced is there, but where a loose write to the same sector was kept.
func TestSyncedStays(t *testing.T) {
	at := []int{0, 2, 0, 3, 2}
	for _, keep := range keeps(len(at) + 1) {
		for _, tear := range []int{0, 1, 33, 63} {
			d := newDisk(t, 5)
			for i := range 5 {
				ok(t, d.Write(i, counted(byte(i))))
			}
			ok(t, d.Sync())
			written := map[int]bool{}
			for i, a := range at {
				ok(t, d.Write(a, counted(byte(100+i))))
				written[a] = written[a] || keep[i]
			}
			ok(t, d.Crash(tear, keep...))
			for i := range 5 {
				b, e := d.Read(i)
				if e != api.OK || bytes.Equal(b, counted(byte(i))) == written[i] {
					t.Fatalf("behind Crash(%d, %v) sector %d is %x", tear, keep, i, b)
				}
			}
		}
	}
}

// P4.4: a crash that keeps all, and tears none, changes no sector, also where it stopped.
func TestKeepAll(t *testing.T) {
	for after := range 12 {
		d := newDisk(t, 4)
		ok(t, d.Stop(after))
		for i := range 14 {
			if i%5 == 3 {
				d.Sync()
			} else {
				d.Write(i*i%3, counted(byte(i)))
			}
		}
		l := gone(d.All())
		c := d.Copy()
		ok(t, d.Crash(0, slices.Repeat([]bool{true}, d.Loose())...))
		wantAll(t, d.All(), l...)
		ok(t, c.Crash(0, slices.Repeat([]bool{true}, 100)...))
		if !disk.Same(c, d) {
			t.Errorf("truths beyond the loose writes count")
		}
	}
}
