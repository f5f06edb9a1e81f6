package cache_test

import (
	"fmt"
	"math/rand"
	"slices"
	"testing"

	"loupe/api"
	"loupe/cache"
	"loupe/file"
)

// step is something that is done to a cache.
type step struct {
	does  byte // r(ead), w(rite), c(ommit), d(rop)
	at    int  // the page, or the size
	first byte
}

// done tells what a cache answers to it.
func (s step) done(c *cache.Cache) string {
	switch s.does {
	case 'r':
		b, e := c.Read(s.at)
		return fmt.Sprintf("%x %v", b, e)
	case 'w':
		return fmt.Sprint(c.Write(s.at, page(s.first)))
	case 'c':
		return fmt.Sprint(c.Commit(s.at))
	}
	return fmt.Sprint(c.Drop())
}

// steps is so many of them, with no more than so many dirty pages at a time.
func steps(r *rand.Rand, many, dirty int) []step {
	var l []step
	written := map[int]bool{}
	for range many {
		s := step{"rrrrwwwcd"[r.Intn(9)], r.Intn(13) - 1, byte(r.Intn(256))}
		if s.does == 'w' && s.at >= 0 && s.at < 11 && !written[s.at] {
			if len(written) == dirty {
				continue
			}
			written[s.at] = true
		}
		if s.does == 'd' || s.does == 'c' && s.at >= 0 {
			clear(written)
		}
		l = append(l, s)
	}
	return l
}

// broad is a plan of more pages than some rooms, and fewer than others.
var broad = api.Plan{Frames: 5, Pages: 11}

// answers is what steps answer with a room, and what the file has then.
func answers(t *testing.T, room int, l []step) ([]string, []string) {
	t.Helper()
	f, e := file.Open(newDisk(t, broad), broad)
	ok(t, e)
	c, e := cache.New(f, room)
	ok(t, e)
	var told []string
	for _, s := range l {
		told = append(told, s.done(c))
	}
	var all []string
	for at := range broad.Pages {
		b, e := f.Read(at)
		all = append(all, fmt.Sprintf("%x %v", b, e))
	}
	return told, append(all, fmt.Sprint(f.Size()))
}

// P8.4: the same reads, writes, commits and drops are answered alike with rooms of every size, as long as there is a clean page.
func TestRooms(t *testing.T) {
	for seed := range int64(30) {
		for dirty := 1; dirty < 6; dirty++ {
			l := steps(rand.New(rand.NewSource(seed)), 120, dirty)
			told, all := answers(t, 2000, l)
			if !slices.Contains(told, "error 4") || slices.Contains(told, "error 160") {
				t.Fatalf("seed %d: other steps than were wanted", seed)
			}
			for room := dirty + 1; room < 14; room++ {
				got, has := answers(t, room, l)
				for i, text := range got {
					if text != told[i] {
						t.Fatalf("seed %d, room %d: %v is %.20s, not %.20s", seed, room, l[:i+1], text, told[i])
					}
				}
				if !slices.Equal(has, all) {
					t.Fatalf("seed %d, room %d: another file", seed, room)
				}
			}
		}
	}
}

// truth is what is to be read: what was written since the last commit, or else what the file has.
type truth struct {
	written, committed map[int]byte
	size               int
}

// text is what is to be read.
func (u truth) text(at int) string {
	if first, is := u.written[at]; is {
		return string(page(first))
	}
	if first, is := u.committed[at]; is {
		return string(page(first))
	}
	return string(make([]byte, 512))
}

// commit is what is to be read behind a commit.
func (u *truth) commit(size int) {
	for at, first := range u.written {
		u.committed[at] = first
	}
	clear(u.written)
	u.size = size
}

// P8.4: whatever the room: what is read is what was written last, or the file's; what finds no room finds it behind a commit, or a drop.
func TestTruth(t *testing.T) {
	for room := 2; room < 14; room++ {
		for seed := range int64(8) {
			r := rand.New(rand.NewSource(seed))
			p := newPair(t, broad, room)
			p.done += fmt.Sprintf("seed %d: ", seed)
			u := truth{map[int]byte{}, map[int]byte{}, 0}
			for range 150 {
				at, e := r.Intn(11), api.OK
				switch r.Intn(8) {
				case 0, 1, 2:
					first := byte(1 + r.Intn(255))
					if e = p.put(t, first, at); e == api.OK {
						u.written[at] = first
					}
				case 3:
					p.drop(t)
					clear(u.written)
				default:
					var text string
					if text, e = p.read(t, at); e == api.OK && text != u.text(at) {
						t.Fatalf("%sis %x", p.done, text)
					}
				}
				if e == api.ErrFull || r.Intn(9) == 0 {
					if len(u.written) > 5 {
						want(t, p.done, p.commit(t, at), api.ErrFull)
						p.drop(t)
						clear(u.written)
					}
					ok(t, p.commit(t, at))
					u.commit(at)
					ok(t, p.look(t, at), p.put(t, 1, at))
					u.written[at] = 1
				} else if e != api.OK {
					t.Fatalf("%sis %v", p.done, e)
				}
				if p.c.File().Size() != u.size {
					t.Fatalf("%sleaves size %d", p.done, p.c.File().Size())
				}
			}
		}
	}
}

// P8.1 to P8.4: long lives of right and wrong calls, stops and checkings in are as in the model.
func TestLives(t *testing.T) {
	for seed := range int64(60) {
		r := rand.New(rand.NewSource(seed))
		p := newPair(t, small, 2+r.Intn(6))
		p.done += fmt.Sprintf("seed %d: ", seed)
		for range 150 {
			at := r.Intn(8) - 1
			switch r.Intn(16) {
			case 0:
				p.drop(t)
			case 1, 2:
				p.commit(t, at)
			case 3:
				p.stop(t, r.Intn(60))
			case 4:
				p.checkIn(t)
			case 5:
				p.write(t, at, page(7)[:511+r.Intn(2)])
			case 6, 7, 8, 9:
				p.put(t, byte(r.Intn(256)), at)
			default:
				p.read(t, at)
			}
		}
		p.stop(t, 999)
		for at := range 6 {
			p.read(t, at)
		}
	}
}
