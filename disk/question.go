package disk

import "loupe/api"

// question is whether a call is refused, and by which error.
type question struct {
	e  api.Errno
	is func() bool
}

// refusal tells the error of the first question that is answered by yes. Of no disk none is asked: it has nothing that they could look at.
func (d *Disk) refusal(l ...question) api.Errno {
	e := api.ErrNil
	if d.none() {
		goto refused
	}
	for _, q := range l {
		if q.is() {
			e = q.e
			goto refused
		}
	}
	return api.OK
refused:
	return e
}

// odd asks whether bytes are too few or too many for a sector.
func odd(b []byte) question {
	return question{api.ErrArg, func() bool { return len(b) != api.SectorSize }}
}

// below asks whether a number is below 0.
func below(n int) question {
	return question{api.ErrArg, func() bool { return n < 0 }}
}

// above asks whether so many bytes are more than can be torn off.
func above(tear int) question {
	return question{api.ErrArg, func() bool { return tear >= api.SectorSize }}
}

// beyond asks whether there is no such sector.
func (d *Disk) beyond(at int) question {
	return question{api.ErrRange, func() bool { return at < 0 || at >= d.many }}
}

// halted asks whether the disk has stopped.
func (d *Disk) halted() question { return question{api.ErrStopped, d.Stopped} }

// asked tells the things of a list at whose places a question is answered by yes.
func asked[T any](l []T, is func(at int) bool) []T {
	var yes []T
	for at, thing := range l {
		if is(at) {
			yes = append(yes, thing)
		}
	}
	return yes
}
