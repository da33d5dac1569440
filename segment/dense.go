package segment

import (
	"amanuensis/api"
	"amanuensis/bytes"
)

const denseMark = "AMD1"

// Pack gives the denser coding of the events, the first of which has that number.
func Pack(first int, l []api.Event) ([]byte, api.Errno) {
	if !mayBeFirst(first) || len(l) == 0 {
		return nil, api.ErrArg
	}
	if len(l) > api.MaxPacked {
		return nil, api.ErrLong
	}
	out := bytes.Uint(begin(denseMark, first), uint64(len(l)))
	for _, c := range columns() {
		out = c.put(out, l)
	}
	return bytes.Seal(out), api.OK
}

// Unpack tells the number and the events that were packed as b.
func Unpack(b []byte) (int, []api.Event, api.Errno) {
	body, fault := bytes.Unseal(b)
	if fault != api.OK {
		return 0, nil, fault
	}
	first, l, ok := unpacked(body)
	if !ok {
		return 0, nil, api.ErrBytes
	}
	return first, l, api.OK
}

// unpacked tells what the bytes are the denser coding of, but for its sum, and whether they are one, to the last byte.
func unpacked(b []byte) (int, []api.Event, bool) {
	first, at, fault := readBegin(b, denseMark)
	if fault != api.OK {
		return 0, nil, false
	}
	n, at, fault := bytes.GetUint(b, at)
	if fault != api.OK || n == 0 || n > api.MaxPacked {
		return 0, nil, false
	}
	l := make([]api.Event, n)
	for _, c := range columns() {
		var ok bool
		if at, ok = c.read(b, at, l); !ok {
			return 0, nil, false
		}
	}
	return first, l, at == len(b)
}
