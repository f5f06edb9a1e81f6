package octet

import (
	"sync"
	"sync/atomic"
)

// poly is what is laid on for each lowest bit that is 1.
const poly = 0xedb88320

// Sum tells the sum of bytes.
func Sum(l ...[]byte) uint32 {
	t := &table{}
	sum := ^uint32(0)
	for _, b := range l {
		for _, c := range b {
			sum ^= uint32(c)
			sum = t.down(t.down(sum))
		}
	}
	return ^sum
}

// table tells what four places do to a sum, by its lowest four bits. Each call of Sum makes one: for the bytes of a sector or of a page, a table of all eight bits would cost more than it saves.
type table struct {
	once sync.Once
	made atomic.Int64
	four []uint32
}

// down goes four places down. The first one that goes needs the table to be made.
func (t *table) down(sum uint32) uint32 {
	t.once.Do(t.fill)
	return sum>>4 ^ t.four[sum&15]
}

func (t *table) fill() {
	t.made.Add(1)
	t.four = each(16, func(low int) uint32 {
		sum := uint32(low)
		for range 4 {
			sum = sum>>1 ^ poly*(sum&1)
		}
		return sum
	})
}
