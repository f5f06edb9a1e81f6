package octet

import (
	"hash/crc32"
	"testing"
)

// P3.3: the sum's table is made when the first byte asks for it, and not again.
func TestTableIsMadeOnce(t *testing.T) {
	table := &table{}
	if made := table.made.Load(); made != 0 {
		t.Errorf("ahead of the first byte the table was made %d times", made)
	}
	for n := range 1000 {
		table.down(uint32(n) * 0x9e3779b1)
		if made := table.made.Load(); made != 1 {
			t.Fatalf("behind %d bytes the table was made %d times", n+1, made)
		}
	}
}

// P3.3: what the table tells is what the document's eight looks at the lowest bit come to.
func TestTable(t *testing.T) {
	table := &table{}
	for c := range uint32(256) {
		for _, above := range []uint32{0, 0x100, 0x8000_0000, 0xffff_ff00, 0x1234_5600} {
			want := above | c
			for range 8 {
				low := want & 1
				want >>= 1
				if low == 1 {
					want ^= 0xedb88320
				}
			}
			if got := table.down(table.down(above | c)); got != want {
				t.Errorf("%#x goes down to %#x, not %#x", above|c, got, want)
			}
		}
		if got := table.down(table.down(c)); got != crc32.IEEETable[c] {
			t.Errorf("%#x goes down to %#x, not %#x", c, got, crc32.IEEETable[c])
		}
	}
}
