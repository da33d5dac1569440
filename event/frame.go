package event

import (
	"amanuensis/api"
	"amanuensis/bytes"
)

const sumSize = 4 // bytes of a body's sum

// Frame gives the frame of the events.
func Frame(l []api.Event) ([]byte, api.Errno) {
	if len(l) == 0 {
		return nil, api.ErrArg
	}
	if len(l) > api.MaxEvents {
		return nil, api.ErrLong
	}
	b := body(l)
	return append(bytes.Uint(nil, uint64(len(b))), bytes.Seal(b)...), api.OK
}

// Read tells the events of the frame at the place at, and the place behind it.
func Read(b []byte, at int) ([]api.Event, int, api.Errno) {
	size, begin, fault := bytes.GetUint(b, at)
	if fault != api.OK {
		return nil, 0, fault
	}
	if size > api.MaxFrame {
		return nil, 0, api.ErrLong
	}
	end := begin + int(size) + sumSize
	if end > len(b) {
		return nil, 0, api.ErrShort
	}
	whole, fault := bytes.Unseal(b[begin:end])
	if fault != api.OK {
		return nil, 0, fault
	}
	l, ok := events(whole)
	if !ok {
		return nil, 0, api.ErrBytes
	}
	return l, end, api.OK
}

// body gives the bytes of a frame's body.
func body(l []api.Event) []byte {
	out := bytes.Uint(nil, uint64(len(l)))
	var ahead api.Event
	for _, e := range l {
		out = put(out, ahead, e)
		ahead = e
	}
	return out
}

// events tells what a frame's body is of, and whether it is one, to its last byte.
func events(b []byte) ([]api.Event, bool) {
	n, at, fault := bytes.GetUint(b, 0)
	if fault != api.OK || n == 0 || n > api.MaxEvents {
		return nil, false
	}
	var l []api.Event
	var e api.Event
	for range n {
		e, at, fault = Get(b, at, e)
		if fault != api.OK {
			return nil, false
		}
		l = append(l, e)
	}
	if at != len(b) {
		return nil, false
	}
	return l, true
}
