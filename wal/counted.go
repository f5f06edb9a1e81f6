package wal

import (
	"bytes"
	"cmp"
	"iter"
	"maps"
	"slices"

	"loupe/api"
	"loupe/frame"
)

// end is where frames end, and what the next one must have there.
type end struct {
	epoch uint64
	index int
	link  uint32
}

// endAhead is the end that a frame was laid at.
func endAhead(f api.Frame) end { return end{f.Epoch, f.Index, f.Link} }

// endBehind is the end behind it.
func endBehind(f api.Frame) end {
	sum, _ := frame.Sum(f) // each frame here is one that may be
	return end{f.Epoch, f.Index + 1, sum}
}

// counted is what is known of the frames that count.
type counted struct {
	end   end
	size  int
	pages map[int][]byte // each page's last bytes; they are never changed, so that maps may share them
}

// frames is those with pages that come next, the last one committing with a size. They have bytes of their own.
func (c *counted) frames(size int, w []api.PageWrite) []api.Frame {
	var l []api.Frame
	at := c.end
	for i, p := range w {
		f := api.Frame{Epoch: at.epoch, Index: at.index, Page: p.Page, Link: at.link, Bytes: bytes.Clone(p.Bytes)}
		if i == len(w)-1 {
			f.Commit, f.Size = true, size
		}
		at = endBehind(f)
		l = append(l, f)
	}
	return l
}

// take counts frames that follow; the last one commits.
func (c *counted) take(l []api.Frame) {
	for _, f := range l {
		c.pages[f.Page] = f.Bytes
	}
	last := l[len(l)-1]
	c.end, c.size = endBehind(last), last.Size
}

// rising goes over a map by its keys' order.
func rising[K cmp.Ordered, V any](m map[K]V) iter.Seq2[K, V] {
	return func(yield func(K, V) bool) {
		for _, k := range slices.Sorted(maps.Keys(m)) {
			if !yield(k, m[k]) {
				return
			}
		}
	}
}
