package event

import (
	"encoding/binary"
	"math"
	"slices"
	"testing"

	"amanuensis/api"
)

const (
	least = math.MinInt64
	top   = math.MaxInt64
)

// same fails unless got is want, byte by byte.
func same(t *testing.T, what string, got, want []byte) {
	t.Helper()
	if !slices.Equal(got, want) {
		t.Errorf("%s: %v, not %v", what, got, want)
	}
}

// roomy gives a copy of b with spare room behind it, and a call that fails if b or that room has changed.
func roomy(t *testing.T, b []byte) ([]byte, func()) {
	const spare = 60
	all := append(slices.Clone(b), slices.Repeat([]byte{238}, spare)...)
	was := slices.Clone(all)
	return all[:len(b)], func() {
		t.Helper()
		same(t, "what was handed in", all, was)
	}
}

// plainPut is what the chapter's words have as the bytes of e beside ahead.
func plainPut(ahead, e api.Event) []byte {
	out := []byte{byte(e.Op)}
	out = binary.AppendVarint(out, int64(e.Thread)-int64(ahead.Thread))
	out = binary.AppendVarint(out, int64(e.Obj)-int64(ahead.Obj))
	out = binary.AppendVarint(out, e.A-ahead.A)
	return binary.AppendVarint(out, e.B-ahead.B)
}

// chance gives numbers that are the same at each run of the tests, the most of them small, or near to an end.
func chance(seed int) func() uint64 {
	x := uint64(seed)*2 + 1
	return func() uint64 {
		x = x*6364136223846793005 + 1442695040888963407
		n := x >> 32 * (x >> 33)
		switch x >> 20 % 4 {
		case 0:
			return n % 200
		case 1:
			return -(n % 200)
		case 2:
			return 1<<63 + n%9 - 4
		}
		return n ^ x<<7
	}
}

// some are so many events of numbers of all sizes.
func some(n, seed int) []api.Event {
	next := chance(seed)
	out := make([]api.Event, n)
	for i := range out {
		out[i] = api.Event{Thread: int(next()), Op: api.Op(next()), Obj: int(next()), A: int64(next()), B: int64(next())}
	}
	return out
}

// ends are events with each number alone at the ends of the varints' lengths, and at its own.
func ends() []api.Event {
	numbers := []int64{0, 1, -1, 63, -64, 64, -65, 8191, -8192, 8192, top - 1, top, least, least + 1}
	var out []api.Event
	for _, n := range numbers {
		out = append(out, api.Event{Thread: int(n)}, api.Event{Obj: int(n)}, api.Event{A: n}, api.Event{B: n},
			api.Event{Thread: int(n), Op: 255, Obj: int(-n), A: n, B: -n})
	}
	return out
}

// laid are events with their bytes, beside another one each.
func laid() []struct {
	ahead, e api.Event
	want     []byte
} {
	one := api.Event{Thread: 1, Op: 2, Obj: 3, A: 4, B: -1}
	high := []byte{254, 255, 255, 255, 255, 255, 255, 255, 255, 1}
	low := []byte{255, 255, 255, 255, 255, 255, 255, 255, 255, 1}
	return []struct {
		ahead, e api.Event
		want     []byte
	}{
		{api.Event{}, api.Event{}, []byte{0, 0, 0, 0, 0}},
		{api.Event{}, one, []byte{2, 2, 6, 8, 1}},
		{one, one, []byte{2, 0, 0, 0, 0}},
		{one, api.Event{}, []byte{0, 1, 5, 7, 2}},
		{api.Event{Op: 9}, api.Event{Op: 255}, []byte{255, 0, 0, 0, 0}},
		{api.Event{Op: 200}, api.Event{Op: 128}, []byte{128, 0, 0, 0, 0}},
		{api.Event{Thread: 64}, api.Event{Obj: 150}, []byte{0, 127, 172, 2, 0, 0}},
		{api.Event{A: top}, api.Event{A: least}, []byte{0, 0, 0, 2, 0}},
		{api.Event{B: least}, api.Event{B: top}, []byte{0, 0, 0, 0, 1}},
		{api.Event{Thread: top}, api.Event{Thread: least}, []byte{0, 2, 0, 0, 0}},
		{api.Event{Obj: least}, api.Event{Obj: top}, []byte{0, 0, 1, 0, 0}},
		{api.Event{A: -1}, api.Event{A: top}, slices.Concat([]byte{0, 0, 0}, low, []byte{0})},
		{api.Event{}, api.Event{B: top}, slices.Concat([]byte{0, 0, 0, 0}, high)},
		{api.Event{}, api.Event{B: least}, slices.Concat([]byte{0, 0, 0, 0}, low)},
		{api.Event{Obj: 1}, api.Event{Obj: least}, slices.Concat([]byte{0, 0}, high, []byte{0, 0})},
		{api.Event{Thread: least}, api.Event{}, slices.Concat([]byte{0}, low, []byte{0, 0, 0})},
	}
}

// P3.1: an event's bytes.
func TestPut(t *testing.T) {
	for _, x := range laid() {
		same(t, "alone", Put(nil, x.ahead, x.e), x.want)
		same(t, "behind none", Put([]byte{}, x.ahead, x.e), x.want)
		same(t, "behind others", Put([]byte{9, 128}, x.ahead, x.e), append([]byte{9, 128}, x.want...))
	}
	all := append(ends(), some(40, 1)...)
	for _, ahead := range all {
		for _, e := range all {
			same(t, "beside another one", Put(nil, ahead, e), plainPut(ahead, e))
		}
	}
}

// P3.1, R3: what is handed in stays, with its spare room.
func TestPutLeavesWhatIsHandedIn(t *testing.T) {
	for _, e := range ends() {
		out, unchanged := roomy(t, []byte{1, 2, 3})
		first := Put(out, api.Event{}, e)
		second := Put(out, e, api.Event{Op: 7})
		unchanged()
		same(t, "the first", first, append([]byte{1, 2, 3}, plainPut(api.Event{}, e)...))
		same(t, "the second", second, append([]byte{1, 2, 3}, plainPut(e, api.Event{Op: 7})...))
	}
}

// gets fails unless Get tells that.
func gets(t *testing.T, b []byte, at int, ahead, want api.Event, next int) {
	t.Helper()
	if got, n, e := Get(b, at, ahead); got != want || n != next || e != api.OK {
		t.Error(b, at, ahead, "is", got, n, e, "not", want, next)
	}
}

// getsNot fails unless Get tells that error, and nothing beside it.
func getsNot(t *testing.T, b []byte, at int, want api.Errno) {
	t.Helper()
	for _, ahead := range []api.Event{{}, {Thread: 1, Op: 2, Obj: 3, A: 4, B: 5}} {
		if got, n, e := Get(b, at, ahead); got != (api.Event{}) || n != 0 || e != want {
			t.Error(b, at, ahead, "is", got, n, e, "not", want)
		}
	}
}

// P3.1: the event, and the place behind it, whatever stands around it.
func TestGet(t *testing.T) {
	for _, x := range laid() {
		gets(t, x.want, 0, x.ahead, x.e, len(x.want))
		around := slices.Concat([]byte{128, 255, 0}, x.want, []byte{128, 0})
		gets(t, around, 3, x.ahead, x.e, 3+len(x.want))
		gets(t, append(slices.Clone(x.want), x.want...), len(x.want), x.ahead, x.e, 2*len(x.want))
	}
}

// P3.1: places that may not be.
func TestGetArg(t *testing.T) {
	for _, b := range [][]byte{nil, {}, {0, 0, 0, 0, 0}, {0}, {0, 128, 0}} {
		for _, at := range []int{least, -5, -1, len(b) + 1, len(b) + 5, top} {
			getsNot(t, b, at, api.ErrArg)
		}
	}
	b := make([]byte, 5, 20)
	getsNot(t, b, 6, api.ErrArg)
}

// P3.1: bytes that end within the event.
func TestGetShort(t *testing.T) {
	for _, x := range laid() {
		for end := range x.want {
			getsNot(t, x.want[:end], 0, api.ErrShort)
			getsNot(t, slices.Clip(x.want[:end]), 0, api.ErrShort)
			getsNot(t, append([]byte{7, 7}, x.want[:end]...), 2, api.ErrShort)
		}
		getsNot(t, x.want, len(x.want), api.ErrShort)
	}
	getsNot(t, nil, 0, api.ErrShort)
}

// noVarints are bytes that are no varint, nor the begin of one.
func noVarints() [][]byte {
	nine := slices.Repeat([]byte{128}, 9)
	return [][]byte{
		{128, 0},
		{255, 0},
		{128, 128, 0},
		append(slices.Clone(nine), 0),
		append(slices.Clone(nine), 2),
		append(slices.Clone(nine), 129, 1),
		slices.Repeat([]byte{255}, 11),
	}
}

// P3.1: each of the four varints may be none; what comes behind it, or does not, changes nothing.
func TestGetBytes(t *testing.T) {
	for _, none := range noVarints() {
		for ahead := range 4 {
			b := slices.Concat([]byte{1}, make([]byte, ahead), none)
			getsNot(t, b, 0, api.ErrBytes)
			getsNot(t, append(b, 0, 0, 0, 0), 0, api.ErrBytes)
			getsNot(t, append([]byte{3, 3}, b...), 2, api.ErrBytes)
		}
		b := slices.Concat([]byte{1, 2, 2, 2, 2}, none)
		gets(t, b, 0, api.Event{}, api.Event{Thread: 1, Op: 1, Obj: 1, A: 1, B: 1}, 5)
	}
}

// P3.1, R3: what is handed in stays.
func TestGetLeavesWhatIsHandedIn(t *testing.T) {
	for _, b := range [][]byte{{1, 2, 3, 4, 5}, {1, 2, 3}, {1, 128, 0}, nil} {
		b, unchanged := roomy(t, b)
		for at := -1; at < 7; at++ {
			Get(b, at, api.Event{A: 3})
		}
		unchanged()
	}
}

// P3.3: what is put is got, whatever the numbers are.
func TestPutIsGot(t *testing.T) {
	all := append(ends(), some(200, 2)...)
	for _, ahead := range all {
		for _, e := range all {
			b := Put([]byte{5}, ahead, e)
			gets(t, b, 1, ahead, e, len(b))
			gets(t, append(b, 128, 0), 1, ahead, e, len(b))
		}
	}
}

// P3.3: events one beside the other.
func TestChain(t *testing.T) {
	l := append(ends(), some(300, 3)...)
	var b []byte
	var ahead api.Event
	for _, e := range l {
		b, ahead = Put(b, ahead, e), e
	}
	at, ahead := 0, api.Event{}
	for i, want := range l {
		got, next, e := Get(b, at, ahead)
		if got != want || e != api.OK {
			t.Fatal(i, got, want, e)
		}
		at, ahead = next, got
	}
	if at != len(b) {
		t.Error(at, len(b))
	}
}

// eachText hands on all texts of so many letters, and of fewer.
func eachText(letters []byte, most int, do func(b []byte)) {
	var longer func(b []byte)
	longer = func(b []byte) {
		do(slices.Clone(b))
		if len(b) == most {
			return
		}
		for _, x := range letters {
			longer(append(b, x))
		}
	}
	longer(nil)
}

// oneForm fails if b tells an event that has other bytes, too.
func oneForm(t *testing.T, b []byte, ahead api.Event) bool {
	t.Helper()
	e, next, fault := Get(b, 0, ahead)
	if fault != api.OK {
		return false
	}
	same(t, "the event's other form", Put(nil, ahead, e), b[:next])
	return true
}

// P3.3: there is one form of each event beside another one.
func TestOneForm(t *testing.T) {
	told := 0
	eachText([]byte{0, 1, 127, 128, 255}, 7, func(b []byte) {
		if oneForm(t, b, api.Event{Thread: -1, Op: 1, Obj: top, A: least, B: 9}) {
			told++
		}
	})
	next := chance(4)
	for range 20000 {
		b := make([]byte, 5+next()%50)
		for at := range b {
			b[at] = byte(next())
		}
		if oneForm(t, b, api.Event{Thread: int(next()), A: int64(next())}) {
			told++
		}
	}
	if told < 10000 {
		t.Error("but", told, "were events")
	}
}
