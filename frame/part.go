package frame

import (
	"slices"

	"loupe/api"
	"loupe/octet"
)

// part is one of those that a head's or a frame's first bytes have.
type part int

const (
	partSerial part = iota
	partEpoch
	partIndex
	partPage
	partCommit
	partSize
	partCount
	partLink
)

// parts tells of each the bytes.
type parts map[part]func() []byte

// headParts is how a head's are laid.
func headParts(h api.Head) parts {
	return parts{
		partSerial: func() []byte { return octet.Eight(h.Serial) },
		partEpoch:  func() []byte { return octet.Eight(h.Epoch) },
		partSize:   func() []byte { return four(h.Size) },
		partCount:  func() []byte { return four(h.Count) },
	}
}

// frameParts is how a frame's are laid.
func frameParts(f api.Frame) parts {
	return parts{
		partEpoch:  func() []byte { return octet.Eight(f.Epoch) },
		partIndex:  func() []byte { return four(f.Index) },
		partPage:   func() []byte { return four(f.Page) },
		partCommit: func() []byte { return one(f.Commit) },
		partSize:   func() []byte { return four(f.Size) },
		partLink:   func() []byte { return octet.Four(f.Link) },
	}
}

// laid tells the bytes of parts, one behind the other.
func (p parts) laid(l ...part) []byte {
	var b []byte
	for _, name := range l {
		b = append(b, p[name]()...)
	}
	return b
}

// four tells a number that is known to be small.
func four(n int) []byte { return octet.Four(uint32(n)) }

// one tells a truth.
func one(is bool) []byte {
	if is {
		return []byte{1}
	}
	return []byte{0}
}

// sector is the bytes of one.
type sector [api.SectorSize]byte

// filled is a sector that begins with bytes, and has noughts behind them.
func filled(l ...[]byte) sector {
	var s sector
	copy(s[:], slices.Concat(l...))
	return s
}

// headSector is a head's bytes: all is there twice, so that no head is made of two that were torn.
func headSector(h api.Head) sector {
	b := headParts(h).laid(partSerial, partEpoch, partSize, partCount)
	b = append(b, octet.Four(octet.Sum(b))...)
	return filled(b, b)
}

// frameSector is the first of a frame's sectors; its page's are behind it.
func frameSector(f api.Frame) sector { return filled(summed(f), octet.Four(sum(f))) }

// sum is a frame's sum.
func sum(f api.Frame) uint32 { return octet.Sum(summed(f), f.Bytes) }

// summed is what a frame's sum is made of, ahead of its page.
func summed(f api.Frame) []byte {
	return frameParts(f).laid(partEpoch, partIndex, partPage, partCommit, partSize, partLink)
}
