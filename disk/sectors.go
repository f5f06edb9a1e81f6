package disk

import (
	"cmp"
	"iter"
	"maps"
	"slices"

	"loupe/api"
)

// sector is the bytes of one.
type sector [api.SectorSize]byte

// cut tells its first bytes. They are new, as b is a copy, and there is no room behind them: what is appended to them comes into no sector.
func (b sector) cut(many int) []byte { return b[:many:many] }

// sectors is sectors by their numbers. Those that are noughts are left out: so what has the same bytes has the same map.
type sectors struct{ of map[int]sector }

// noughts is sectors as they are at first.
func noughts() sectors { return sectors{map[int]sector{}} }

// bytes tells the bytes of one.
func (s sectors) bytes(at int) []byte { return s.of[at].cut(api.SectorSize) }

// lay writes the first bytes of one; the others stay.
func (s sectors) lay(at int, b []byte) {
	whole := s.of[at]
	copy(whole[:len(b):len(b)], b)
	if whole == (sector{}) {
		delete(s.of, at)
	} else {
		s.of[at] = whole
	}
}

// clone is other ones of the same bytes.
func (s sectors) clone() sectors { return sectors{maps.Clone(s.of)} }

// all goes over those that are not noughts, rising.
func (s sectors) all() iter.Seq2[int, []byte] {
	return func(yield func(int, []byte) bool) {
	each:
		for at, b := range rising(s.of) {
			if !yield(at, b.cut(api.SectorSize)) {
				break each
			}
		}
	}
}

// rising goes over a map by its keys' order.
func rising[K cmp.Ordered, V any](m map[K]V) iter.Seq2[K, V] {
	return func(yield func(K, V) bool) {
		for _, k := range slices.Sorted(maps.Keys(m)) {
			if !yield(k, m[k]) {
				return
			}
		}
	}
}
