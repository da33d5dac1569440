package segment

import (
	"amanuensis/api"
	"amanuensis/bytes"
)

// column is the same number of all events: pick tells it of one of them, lay puts it into one.
type column struct {
	pick func(e api.Event) int64
	lay  func(e *api.Event, n int64)
}

// run is so many of the same difference, one behind the other.
type run struct {
	step int64
	many uint64
}

// columns are all of them, in the order of the bytes.
func columns() [5]column {
	return [5]column{
		{func(e api.Event) int64 { return int64(e.Thread) }, func(e *api.Event, n int64) { e.Thread = int(n) }},
		{func(e api.Event) int64 { return int64(e.Op) }, func(e *api.Event, n int64) { e.Op = api.Op(n) }},
		{func(e api.Event) int64 { return int64(e.Obj) }, func(e *api.Event, n int64) { e.Obj = int(n) }},
		{func(e api.Event) int64 { return e.A }, func(e *api.Event, n int64) { e.A = n }},
		{func(e api.Event) int64 { return e.B }, func(e *api.Event, n int64) { e.B = n }},
	}
}

// put gives out, and behind it the column of the events.
func (c column) put(out []byte, l []api.Event) []byte {
	for _, r := range c.runs(l) {
		out = append(out, bytes.Uint(bytes.Int(nil, r.step), r.many)...)
	}
	return out
}

// runs tells the differences of the events' numbers.
func (c column) runs(l []api.Event) []run {
	var out []run
	var ahead int64
	for _, e := range l {
		n := c.pick(e)
		step := n - ahead
		ahead = n
		if last := len(out) - 1; last >= 0 && out[last].step == step {
			out[last].many++
			continue
		}
		out = append(out, run{step: step, many: 1})
	}
	return out
}

// read lays the column at the place at into the events, and tells the place behind it, and whether a column of so many stands there.
func (c column) read(b []byte, at int, l []api.Event) (int, bool) {
	var last run
	var n int64
	for len(l) > 0 {
		r, next, ok := readRun(b, at)
		if !ok || r.many > uint64(len(l)) {
			return 0, false
		}
		if last.many > 0 && r.step == last.step { // the two would have been one
			return 0, false
		}
		for i := range r.many {
			n += r.step
			c.lay(&l[i], n)
			if c.pick(l[i]) != n { // an event has no room for it
				return 0, false
			}
		}
		l, at, last = l[r.many:], next, r
	}
	return at, true
}

// readRun tells the run at the place at, the place behind it, and whether one stands there.
func readRun(b []byte, at int) (run, int, bool) {
	step, at, fault := bytes.GetInt(b, at)
	if fault != api.OK {
		return run{}, 0, false
	}
	many, at, fault := bytes.GetUint(b, at)
	if fault != api.OK || many == 0 {
		return run{}, 0, false
	}
	return run{step: step, many: many}, at, true
}
