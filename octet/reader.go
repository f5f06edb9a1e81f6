package octet

// octets is bytes that are not read yet.
type octets struct{ rest []byte }

// take goes on behind so many bytes, if there are as many. How many is held against what there is as it was read: as an int it might be below 0.
func (o *octets) take(many uint64) ([]byte, bool) {
	if many > uint64(len(o.rest)) {
		return nil, false
	}
	taken := o.rest[:many:many]
	o.rest = o.rest[many:]
	return taken, true
}

// reader reads what bytes begin with.
type reader struct{ octets }

// number reads a number. A byte 0 behind others is one that the number does not need; the tenth byte has room for the highest bit alone.
func (r *reader) number() (uint64, bool) {
	n := uint64(0)
	for up := 0; up < 64; up += 7 {
		b, is := r.take(1)
		if !is || up > 0 && b[0] == 0 || up == 63 && b[0] > 1 {
			goto none
		}
		n |= uint64(b[0]&0x7f) << up
		if b[0] < 0x80 {
			return n, true
		}
	}
none:
	return 0, false
}

// text reads a string.
func (r *reader) text() (string, bool) {
	var b []byte
	many, is := r.number()
	if !is {
		goto none
	}
	b, is = r.take(many)
	if !is {
		goto none
	}
	return string(b), true
none:
	return "", false
}
