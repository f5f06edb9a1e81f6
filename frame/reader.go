package frame

import (
	"bytes"
	"iter"

	"loupe/api"
	"loupe/octet"
)

// octets is bytes that are not read yet.
type octets struct{ rest []byte }

// take goes on behind so many bytes, or behind all of them, if there are fewer. There is no room behind those that it tells: what is appended to them comes into no others.
func (o *octets) take(many int) []byte {
	many = min(many, len(o.rest))
	taken := o.rest[:many:many]
	o.rest = o.rest[many:]
	return taken
}

// reader reads bytes from their first one on.
type reader struct{ octets }

// number reads a fixed number of so many bytes. It is not asked for more than there are: whoever reads has whole sectors.
func number[T, F int | uint32 | uint64](r *reader, many int, read func([]byte) (F, api.Errno)) T {
	n, _ := read(r.take(many))
	return T(n)
}

// readHead tells what stands where a head's parts lie in a sector, whether it may be or not.
func readHead(b []byte) api.Head {
	r := &reader{octets{b}}
	return api.Head{
		Serial: number[uint64](r, 8, octet.ReadEight),
		Epoch:  number[uint64](r, 8, octet.ReadEight),
		Size:   number[int](r, 4, octet.ReadFour),
		Count:  number[int](r, 4, octet.ReadFour),
	}
}

// readFrame tells what stands where a frame's parts lie in its sectors, whether it may be or not.
func readFrame(b []byte) api.Frame {
	r := &reader{octets{b}}
	return api.Frame{
		Epoch:  number[uint64](r, 8, octet.ReadEight),
		Index:  number[int](r, 4, octet.ReadFour),
		Page:   number[int](r, 4, octet.ReadFour),
		Commit: r.take(1)[0] == 1,
		Size:   number[int](r, 4, octet.ReadFour),
		Link:   number[uint32](r, 4, octet.ReadFour),
		Bytes:  bytes.Clone(b[api.SectorSize:]),
	}
}

// sectors goes over the sectors of bytes, over the bytes themselves.
func sectors(b []byte) iter.Seq2[int, []byte] {
	return func(yield func(int, []byte) bool) {
		r := reader{octets{b}}
		for at := 0; len(r.rest) > 0; at++ {
			if !yield(at, r.take(api.SectorSize)) {
				return
			}
		}
	}
}
