package segment

import (
	"encoding/binary"
	"slices"
	"strconv"
	"testing"

	"amanuensis/api"
)

// numbers tells an event's numbers, in the order of the columns.
func numbers(e api.Event) [5]int64 {
	return [5]int64{int64(e.Thread), int64(e.Op), int64(e.Obj), e.A, e.B}
}

// plainColumn is what the chapter's words have as the column of the numbers.
func plainColumn(numbers []int64) []byte {
	steps := slices.Clone(numbers)
	for i := len(steps) - 1; i > 0; i-- {
		steps[i] -= steps[i-1]
	}
	var out []byte
	for at := 0; at < len(steps); {
		end := at
		for end < len(steps) && steps[end] == steps[at] {
			end++
		}
		out = binary.AppendUvarint(binary.AppendVarint(out, steps[at]), uint64(end-at))
		at = end
	}
	return out
}

// plainMark is what the chapter's words have ahead of the columns.
func plainMark(first, count uint64) []byte {
	return binary.AppendUvarint(binary.AppendUvarint([]byte{65, 77, 68, 49}, first), count)
}

// plainDense is what the chapter's words have as the denser coding, but for its sum.
func plainDense(first int, l []api.Event) []byte {
	out := plainMark(uint64(first), uint64(len(l)))
	for i := range 5 {
		var column []int64
		for _, e := range l {
			column = append(column, numbers(e)[i])
		}
		out = append(out, plainColumn(column)...)
	}
	return out
}

// walk is events each number of which goes on by a step that changes now and then.
func walk(n, seed int) []api.Event {
	next := chance(seed)
	out := make([]api.Event, n)
	var at, step api.Event
	for i := range out {
		if next()%5 == 0 {
			step = api.Event{Thread: int(next() % 3), Op: api.Op(next() % 2), Obj: int(next()), A: int64(next() % 3), B: int64(next())}
		}
		at = api.Event{Thread: at.Thread + step.Thread, Op: at.Op + step.Op, Obj: at.Obj - step.Obj, A: at.A + step.A, B: at.B + step.B}
		out[i] = at
	}
	return out
}

// turning are events with differences over the numbers' ends.
func turning() []api.Event {
	low := api.Event{Thread: least, Op: 0, Obj: least, A: least, B: least}
	high := api.Event{Thread: top, Op: 255, Obj: top, A: top, B: top}
	return []api.Event{high, low, high, low, low, {}, low, {}, high, high, {Thread: -1, Op: 128, Obj: 1, A: -1, B: 1}, high, low}
}

// lists are of events of many kinds: of few, of many, with long runs and with none.
func lists() [][]api.Event {
	e := api.Event{Thread: 1, Op: 2, Obj: 3, A: 4, B: -1}
	out := [][]api.Event{{{}}, {{}, {}}, {e}, {e, e}, {{}, e}, {e, {}}, slices.Repeat([]api.Event{e}, 300), turning(), some(100, 1), some(128, 2)}
	for i := range 30 {
		out = append(out, walk(1+i*i, i))
	}
	return out
}

// P4.1: the denser coding's bytes.
func TestPack(t *testing.T) {
	for _, x := range []struct {
		first int
		l     []api.Event
		want  []byte
	}{
		{0, make([]api.Event, 2), []byte{65, 77, 68, 49, 0, 2, 0, 2, 0, 2, 0, 2, 0, 2, 0, 2}},
		{300, []api.Event{{Thread: 1, Op: 2, Obj: 3, A: 4, B: -1}}, []byte{65, 77, 68, 49, 172, 2, 1, 2, 1, 4, 1, 6, 1, 8, 1, 1, 1}},
		{1, []api.Event{{Thread: 1, A: 5}, {Thread: 2, A: 5}, {Thread: 3, A: 5}, {Thread: 3, A: 4}},
			[]byte{65, 77, 68, 49, 1, 4, 2, 3, 0, 1, 0, 4, 0, 4, 10, 1, 0, 2, 1, 1, 0, 4}},
		{0, []api.Event{{Op: 255, B: top}, {Op: 0, B: least}, {Op: 1, B: least + 1}},
			slices.Concat([]byte{65, 77, 68, 49, 0, 3, 0, 3, 254, 3, 1, 253, 3, 1, 2, 1, 0, 3, 0, 3}, binary.AppendVarint(nil, top), []byte{1, 2, 2})},
	} {
		b, e := Pack(x.first, x.l)
		same(t, "packed", b, sealed(x.want))
		if e != api.OK {
			t.Error(x.l, e)
		}
	}
	for _, first := range firsts() {
		for _, l := range lists()[:12] {
			b, e := Pack(first, l)
			same(t, "packed", b, sealed(plainDense(first, l)))
			if e != api.OK {
				t.Error(first, len(l), e)
			}
		}
	}
	for _, l := range lists() {
		b, _ := Pack(9, l)
		same(t, "packed", b, sealed(plainDense(9, l)))
	}
}

// P4.1: what has no denser coding; of several errors the first.
func TestPackRefuses(t *testing.T) {
	refuses := func(first int, l []api.Event, want api.Errno) {
		t.Helper()
		if b, e := Pack(first, l); len(b) != 0 || e != want {
			t.Error(first, len(l), "is", len(b), e, "not", want)
		}
	}
	tooMany := make([]api.Event, api.MaxPacked+1)
	for _, first := range noFirsts() {
		refuses(first, make([]api.Event, 1), api.ErrArg)
		refuses(first, nil, api.ErrArg)
		refuses(first, tooMany, api.ErrArg)
	}
	for _, first := range []int{0, 5, 1 << 62} {
		refuses(first, nil, api.ErrArg)
		refuses(first, []api.Event{}, api.ErrArg)
		refuses(first, make([]api.Event, 0, 9), api.ErrArg)
		refuses(first, tooMany, api.ErrLong)
	}
}

// P4.1, P4.3: as many events as there may be, in one run and in as many as there can be.
func TestMostEvents(t *testing.T) {
	l := make([]api.Event, api.MaxPacked)
	for range 2 {
		b, e := Pack(1<<62, l)
		if e != api.OK {
			t.Fatal(e)
		}
		same(t, "the most events", b, sealed(plainDense(1<<62, l)))
		unpacks(t, b, 1<<62, l)
		for i := range l {
			if i%2 == 1 {
				l[i] = api.Event{Thread: -i, Op: api.Op(i), Obj: least, A: int64(i) << 40, B: -1}
			}
		}
	}
}

// P4.1, R3: the list that is handed in stays, with its spare room, and each answer is memory of its own.
func TestPackLeavesWhatIsHandedIn(t *testing.T) {
	was := walk(30, 3)
	l, unchanged := roomy(t, was, api.Event{Obj: 238})
	first, _ := Pack(3, l)
	second, _ := Pack(3, l)
	clear(first[:cap(first)])
	unchanged()
	same(t, "the other answer", second, sealed(plainDense(3, was)))
}

// unpacks fails unless Unpack tells that.
func unpacks(t *testing.T, b []byte, first int, l []api.Event) {
	t.Helper()
	if n, got, e := Unpack(b); n != first || !slices.Equal(got, l) || e != api.OK {
		t.Error("is", n, len(got), e, "not", first, len(l))
	}
}

// unpacksNot fails unless Unpack tells that error, and nothing beside it, whether b has spare room or not.
func unpacksNot(t *testing.T, what string, b []byte, want api.Errno) {
	t.Helper()
	for _, b := range [][]byte{b, slices.Clip(slices.Clone(b))} {
		if n, l, e := Unpack(b); n != 0 || len(l) != 0 || e != want {
			t.Errorf("%s: %d, %d events, error %d, not %d", what, n, len(l), e, want)
		}
	}
}

// P4.3: the number and the events.
func TestUnpack(t *testing.T) {
	unpacks(t, sealed([]byte{65, 77, 68, 49, 0, 2, 0, 2, 0, 2, 0, 2, 0, 2, 0, 2}), 0, make([]api.Event, 2))
	for _, first := range firsts() {
		for _, l := range lists()[:12] {
			unpacks(t, sealed(plainDense(first, l)), first, l)
		}
	}
	for _, l := range lists() {
		unpacks(t, sealed(plainDense(9, l)), 9, l)
	}
}

// P4.3: fewer bytes than a sum has, whatever they are.
func TestUnpackShort(t *testing.T) {
	b := sealed(plainDense(0, some(2, 4)))
	for end := range 4 {
		unpacksNot(t, "the begin", b[:end], api.ErrShort)
		unpacksNot(t, "the end", b[len(b)-end:], api.ErrShort)
		unpacksNot(t, "noughts", make([]byte, end), api.ErrShort)
	}
	unpacksNot(t, "nothing", nil, api.ErrShort)
}

// P4.3: each bit counts, and the sum ahead of what the bytes are.
func TestUnpackSum(t *testing.T) {
	l := walk(9, 5)
	b := sealed(plainDense(300, l))
	for at := range b {
		for bit := range 8 {
			b[at] ^= 1 << bit
			unpacksNot(t, "a bit", b, api.ErrSum)
			b[at] ^= 1 << bit
		}
	}
	unpacks(t, b, 300, l)
	for end := 4; end < len(b); end++ {
		unpacksNot(t, "cut", b[:end], api.ErrSum)
	}
	unpacksNot(t, "four bytes", []byte{0, 0, 0, 1}, api.ErrSum)
	for i, none := range noDense() {
		wrong := sealed(none)
		wrong[len(wrong)-1] ^= 1
		unpacksNot(t, "none, and a wrong sum "+strconv.Itoa(i), wrong, api.ErrSum)
	}
}

// columnsOf puts five columns behind one another, all noughts but the one, of so many events.
func columnsOf(count uint64, i int, column []byte) []byte {
	out := plainMark(0, count)
	for k := range 5 {
		if k == i {
			out = append(out, column...)
			continue
		}
		out = binary.AppendUvarint(append(out, 0), count)
	}
	return out
}

// runs gives runs of these differences, so many of each.
func runs(of ...[2]int64) []byte {
	var out []byte
	for _, r := range of {
		out = binary.AppendUvarint(binary.AppendVarint(out, r[0]), uint64(r[1]))
	}
	return out
}

// noColumns are bytes that are no column of five events.
func noColumns() [][]byte {
	out := [][]byte{
		nil,
		{0},
		runs([2]int64{1, 0}),
		runs([2]int64{1, 0}, [2]int64{0, 5}),
		runs([2]int64{0, 0}, [2]int64{0, 5}),
		runs([2]int64{0, 5}, [2]int64{1, 0}),
		runs([2]int64{0, 4}),
		runs([2]int64{0, 6}),
		runs([2]int64{1, 3}, [2]int64{1, 2}),
		runs([2]int64{0, 3}, [2]int64{0, 2}),
		runs([2]int64{1, 3}, [2]int64{1, 1}, [2]int64{0, 1}),
		runs([2]int64{1, 3}, [2]int64{0, 3}),
		runs([2]int64{1, 3}, [2]int64{0, 1}),
		runs([2]int64{1, 3}, [2]int64{0, 1 << 32}),
		runs([2]int64{1, 3}, [2]int64{0, top}),
		runs([2]int64{1, 3}, [2]int64{0, least}),
		runs([2]int64{1, 3}, [2]int64{0, -1}),
		runs([2]int64{0, -1}),
		runs([2]int64{0, -3}, [2]int64{1, 8}),
		runs([2]int64{0, least}),
	}
	for _, none := range noVarints() {
		out = append(out, none, append(slices.Clone(none), 5), append([]byte{0}, none...), append([]byte{2, 3}, none...), append([]byte{2, 3, 0}, none...))
	}
	return out
}

// noOps are columns of five numbers, some of which no byte holds.
func noOps() [][]byte {
	return [][]byte{
		runs([2]int64{256, 1}, [2]int64{0, 4}),
		runs([2]int64{256, 1}, [2]int64{-256, 1}, [2]int64{0, 3}),
		runs([2]int64{-1, 1}, [2]int64{0, 4}),
		runs([2]int64{-1, 1}, [2]int64{1, 4}),
		runs([2]int64{0, 4}, [2]int64{-1, 1}),
		runs([2]int64{0, 4}, [2]int64{256, 1}),
		runs([2]int64{255, 1}, [2]int64{1, 1}, [2]int64{0, 3}),
		runs([2]int64{64, 5}),
		runs([2]int64{255, 1}, [2]int64{-64, 4}),
		runs([2]int64{1 << 32, 1}, [2]int64{0, 4}),
		runs([2]int64{top, 1}, [2]int64{0, 4}),
		runs([2]int64{least, 5}),
		runs([2]int64{least, 2}, [2]int64{0, 3}),
	}
}

// noDense are bytes that are no denser coding.
func noDense() [][]byte {
	l := walk(9, 6)
	b := plainDense(300, l)
	out := [][]byte{
		append(slices.Clone(b), 0),
		append(slices.Clone(b), 0, 9),
		slices.Concat(b, b),
		slices.Concat([]byte{0}, b),
		plainHead(0),
		plainBegin(0),
		slices.Concat([]byte{65, 77, 83, 49}, b[4:]),
		append(plainMark(300, 8), b[len(plainMark(300, 9)):]...),
		append(plainMark(300, 10), b[len(plainMark(300, 9)):]...),
		plainMark(0, 0),
		append(plainMark(0, 0), 0, 0, 0, 0, 0, 0, 0, 0, 0, 0),
		columnsOf(api.MaxPacked+1, 0, runs([2]int64{0, api.MaxPacked + 1})),
		columnsOf(1<<32+1, 0, runs([2]int64{0, 1<<32 + 1})),
		columnsOf(1<<63, 5, nil),
		columnsOf(1<<64-1, 5, nil),
	}
	for end := range b {
		out = append(out, b[:end])
	}
	for at := range 4 {
		for bit := range 8 {
			other := slices.Clone(b)
			other[at] ^= 1 << bit
			out = append(out, other)
		}
	}
	behind := columnsOf(5, 5, nil)[5:]
	out = append(out, behind, columnsOf(5, 5, nil)[4:])
	for _, first := range []uint64{1<<62 + 1, 1<<63 - 1, 1 << 63, 1<<64 - 1} {
		out = append(out, append(plainMark(first, 5)[:len(plainBegin(first))], behind...))
	}
	for _, none := range noVarints() {
		out = append(out, slices.Concat([]byte{65, 77, 68, 49}, none, behind), slices.Concat([]byte{65, 77, 68, 49, 0}, none, behind[1:]))
	}
	for i := range 5 {
		for _, none := range noColumns() {
			out = append(out, columnsOf(5, i, none))
		}
	}
	for _, none := range noOps() {
		out = append(out, columnsOf(5, 1, none))
	}
	return out
}

// P4.3: bytes that are no denser coding, with their right sum.
func TestUnpackBytes(t *testing.T) {
	unpacksNot(t, "nothing", []byte{0, 0, 0, 0}, api.ErrBytes)
	for i, none := range noDense() {
		unpacksNot(t, "none "+strconv.Itoa(i), sealed(none), api.ErrBytes)
	}
	unpacks(t, sealed(columnsOf(5, 5, nil)), 0, make([]api.Event, 5))
}

// P4.3: what no byte holds, a wider number does.
func TestUnpackWideNumbers(t *testing.T) {
	for _, i := range []int{0, 2, 3, 4} {
		for _, column := range noOps() {
			b := sealed(columnsOf(5, i, column))
			first, l, e := Unpack(b)
			if first != 0 || len(l) != 5 || e != api.OK {
				t.Error(i, column, first, l, e)
				continue
			}
			same(t, "packed again", sealed(plainDense(0, l)), b)
		}
	}
}

// P4.3, R3: what is handed in stays, and each answer is memory of its own.
func TestUnpackLeavesWhatIsHandedIn(t *testing.T) {
	l := walk(30, 7)
	b, unchanged := roomy(t, sealed(plainDense(3, l)), 238)
	_, first, _ := Unpack(b)
	_, second, _ := Unpack(b)
	clear(first[:cap(first)])
	unchanged()
	if !slices.Equal(second, l) {
		t.Error("two answers share memory")
	}
	for _, none := range noDense() {
		b, unchanged := roomy(t, sealed(none), 238)
		Unpack(b)
		unchanged()
	}
}

// P4.4: what is packed is unpacked, and what is unpacked, packed again, is the same bytes.
func TestPackedIsUnpacked(t *testing.T) {
	for i, l := range lists() {
		first := firsts()[i%len(firsts())]
		b, e := Pack(first, l)
		if e != api.OK {
			t.Fatal(e)
		}
		unpacks(t, b, first, l)
		first, l, _ = Unpack(b)
		again, _ := Pack(first, l)
		same(t, "packed again", again, b)
	}
}

// eachText hands on all texts of so many letters, and of fewer.
func eachText(letters []byte, most int, do func(b []byte)) {
	var longer func(b []byte)
	longer = func(b []byte) {
		do(slices.Clone(b))
		if len(b) == most {
			return
		}
		for _, x := range letters {
			longer(append(b, x))
		}
	}
	longer(nil)
}

// P4.4: of columns of any bytes those that are unpacked have that form alone.
func TestDenseHasOneForm(t *testing.T) {
	told := 0
	for i := range 5 {
		eachText([]byte{0, 1, 2, 3, 128, 254}, 6, func(column []byte) {
			b := sealed(columnsOf(3, i, column))
			first, l, e := Unpack(b)
			switch e {
			case api.OK:
				told++
				again, _ := Pack(first, l)
				same(t, "packed again", again, b)
			case api.ErrBytes:
			default:
				t.Error(b, e)
			}
		})
	}
	if told < 500 {
		t.Error("but", told, "were told")
	}
}
