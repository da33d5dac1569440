package event

import (
	"encoding/binary"
	"hash/crc32"
	"slices"
	"strconv"
	"testing"

	"amanuensis/api"
)

// framed puts a length ahead of what should be a body, and its sum behind it.
func framed(body []byte) []byte {
	out := append(binary.AppendUvarint(nil, uint64(len(body))), body...)
	return binary.BigEndian.AppendUint32(out, crc32.ChecksumIEEE(body))
}

// plainBody is what the chapter's words have as the body of so many events.
func plainBody(count uint64, l []api.Event) []byte {
	out := binary.AppendUvarint(nil, count)
	var ahead api.Event
	for _, e := range l {
		out, ahead = append(out, plainPut(ahead, e)...), e
	}
	return out
}

// plainFrame is what the chapter's words have as the frame of the events.
func plainFrame(l []api.Event) []byte {
	return framed(plainBody(uint64(len(l)), l))
}

// frame gives the events' frame, as Frame does.
func frame(t *testing.T, l []api.Event) []byte {
	t.Helper()
	b, e := Frame(l)
	if e != api.OK {
		t.Fatal("a frame of", len(l), e)
	}
	return b
}

// lists are of as many events as a frame may have, and fewer.
func lists() [][]api.Event {
	wide := make([]api.Event, api.MaxEvents) // each difference has ten bytes
	for i := range wide {
		if i%2 == 0 {
			wide[i] = api.Event{Thread: least, Op: 255, Obj: least, A: least, B: least}
		}
	}
	return [][]api.Event{{{}}, {{Thread: 1, Op: 2, Obj: 3, A: 4, B: -1}}, {{}, {}}, ends(), some(127, 5), some(128, 6),
		make([]api.Event, api.MaxEvents-1), make([]api.Event, api.MaxEvents), some(api.MaxEvents, 7), wide}
}

// P3.2: a frame's bytes.
func TestFrame(t *testing.T) {
	zero := frame(t, []api.Event{{}})
	same(t, "a frame's begin", zero[:7], []byte{6, 1, 0, 0, 0, 0, 0})
	if len(zero) != 11 {
		t.Error(zero)
	}
	two := frame(t, []api.Event{{Thread: 1, Op: 2, Obj: 3, A: 4, B: -1}, {Thread: 1, Op: 2, Obj: 3, A: 5, B: 0}})
	same(t, "each beside the one ahead", two[:12], []byte{11, 2, 2, 2, 6, 8, 1, 2, 0, 0, 2, 2})
	for _, l := range lists() {
		same(t, "a frame", frame(t, l), plainFrame(l))
	}
}

// P3.2: lists that have no frame.
func TestFrameRefuses(t *testing.T) {
	for _, x := range []struct {
		l    []api.Event
		want api.Errno
	}{
		{nil, api.ErrArg},
		{[]api.Event{}, api.ErrArg},
		{make([]api.Event, 0, 9), api.ErrArg},
		{make([]api.Event, api.MaxEvents+1), api.ErrLong},
		{make([]api.Event, 3*api.MaxEvents), api.ErrLong},
	} {
		if b, e := Frame(x.l); len(b) != 0 || e != x.want {
			t.Error(len(x.l), "is", len(b), e, "not", x.want)
		}
	}
}

// P3.2, R3: the list that is handed in stays, with its spare room, and each answer is memory of its own.
func TestFrameLeavesWhatIsHandedIn(t *testing.T) {
	all := some(20, 8)
	was := slices.Clone(all)
	first := frame(t, all[:9])
	second := frame(t, all[:9])
	clear(first[:cap(first)])
	same(t, "the other answer", second, plainFrame(was[:9]))
	if !slices.Equal(all, was) {
		t.Error("the list has changed")
	}
}

// reads fails unless Read tells that.
func reads(t *testing.T, b []byte, at int, want []api.Event, next int) {
	t.Helper()
	if got, n, e := Read(b, at); !slices.Equal(got, want) || n != next || e != api.OK {
		t.Error("at", at, "are", len(got), n, e, "not", len(want), next)
	}
}

// readsNot fails unless Read tells that error, and nothing beside it.
func readsNot(t *testing.T, what string, b []byte, at int, want api.Errno) {
	t.Helper()
	if got, n, e := Read(b, at); len(got) != 0 || n != 0 || e != want {
		t.Errorf("%s at %d: %d events, %d, error %d, not %d", what, at, len(got), n, e, want)
	}
}

// P3.2: the events, and the place behind the frame, whatever stands around it.
func TestRead(t *testing.T) {
	for _, l := range lists() {
		b := plainFrame(l)
		reads(t, b, 0, l, len(b))
		reads(t, slices.Concat([]byte{128, 0, 5}, b, []byte{128, 0}), 3, l, 3+len(b))
	}
}

// P3.2: frames one behind the other, each of them read by itself.
func TestReadOneByOne(t *testing.T) {
	var b []byte
	for _, l := range lists() {
		b = append(b, plainFrame(l)...)
	}
	at := 0
	for _, l := range lists() {
		end := at + len(plainFrame(l))
		reads(t, b, at, l, end)
		at = end
	}
	readsNot(t, "the end", b, at, api.ErrShort)
}

// P3.2: places that may not be.
func TestReadArg(t *testing.T) {
	for _, b := range [][]byte{nil, {}, {128, 0}, plainFrame(some(3, 9)), make([]byte, 11, 40)} {
		for _, at := range []int{least, -5, -1, len(b) + 1, len(b) + 5, top} {
			readsNot(t, "a place", b, at, api.ErrArg)
		}
	}
}

// P3.2: a length that is cut, is none, is too much, or more than there is; of several errors the first.
func TestReadLength(t *testing.T) {
	whole := func(size uint64, behind int) []byte {
		return append(binary.AppendUvarint(nil, size), make([]byte, behind)...)
	}
	const most = api.MaxFrame
	for _, x := range []struct {
		what string
		b    []byte
		want api.Errno
	}{
		{"nothing", nil, api.ErrShort},
		{"the begin of a length", []byte{128}, api.ErrShort},
		{"the begin of a long one", slices.Repeat([]byte{255}, 9), api.ErrShort},
		{"one that is too much", whole(most+1, 0), api.ErrLong},
		{"too much, and there", framed(make([]byte, most+1)), api.ErrLong},
		{"too much, and a wrong sum", append(whole(most+1, most+1), 1, 2, 3, 4), api.ErrLong},
		{"2^32", whole(1<<32, 20), api.ErrLong},
		{"2^63 - 1", whole(top, 20), api.ErrLong},
		{"2^63", whole(1<<63, 20), api.ErrLong},
		{"2^64 - 1", whole(1<<64-1, 20), api.ErrLong},
		{"just not too much", whole(most, 0), api.ErrShort},
		{"so much, but for the sum", whole(most, most), api.ErrShort},
		{"so much, but for a byte", whole(most, most+3), api.ErrShort},
		{"so much, and a wrong sum", append(whole(most, most), 1, 2, 3, 4), api.ErrSum},
		{"so much, and no body", framed(make([]byte, most)), api.ErrBytes},
		{"no bytes, no sum", []byte{0}, api.ErrShort},
		{"no bytes, a begin of a sum", []byte{0, 0, 0, 0}, api.ErrShort},
	} {
		readsNot(t, x.what, x.b, 0, x.want)
		readsNot(t, x.what, append([]byte{1, 128}, x.b...), 2, x.want)
	}
	for _, none := range noVarints() {
		readsNot(t, "no length", none, 0, api.ErrBytes)
		readsNot(t, "no length", append(slices.Clone(none), 0, 0, 0, 0, 0, 0), 0, api.ErrBytes)
	}
}

// P3.2: a frame that is cut anywhere.
func TestReadShort(t *testing.T) {
	for _, l := range lists()[:6] {
		b := plainFrame(l)
		for end := range b {
			readsNot(t, "cut", b[:end], 0, api.ErrShort)
			readsNot(t, "cut, behind others", append([]byte{1, 0, 2}, b[:end]...), 3, api.ErrShort)
		}
	}
}

// P3.2: each bit of the body and of the sum counts, and the sum ahead of what the body is.
func TestReadSum(t *testing.T) {
	b := plainFrame(some(5, 10))
	_, begin := binary.Uvarint(b)
	for at := begin; at < len(b); at++ {
		for bit := range 8 {
			b[at] ^= 1 << bit
			readsNot(t, "a bit", b, 0, api.ErrSum)
			b[at] ^= 1 << bit
		}
	}
	reads(t, b, 0, some(5, 10), len(b))
	for _, body := range noBodies() {
		b := framed(body)
		b[len(b)-1] ^= 1
		readsNot(t, "no body", b, 0, api.ErrSum)
	}
}

// noBodies are bytes that are no frame's body.
func noBodies() [][]byte {
	one, two := []api.Event{{Thread: 1, Op: 2, Obj: 300, A: top, B: -1}}, some(2, 11)
	body := plainBody(1, one)
	out := [][]byte{
		nil,
		{0},
		plainBody(0, one),
		plainBody(2, one),
		plainBody(1, two),
		plainBody(api.MaxEvents+1, make([]api.Event, api.MaxEvents+1)),
		plainBody(api.MaxEvents+1, one),
		plainBody(api.MaxEvents, make([]api.Event, api.MaxEvents-1)),
		plainBody(api.MaxEvents, make([]api.Event, api.MaxEvents+1)),
		plainBody(1<<63, one),
		plainBody(1<<64-1, one),
		append(slices.Clone(body), 0),
		append(slices.Clone(body), 0, 0, 0, 0, 0),
		{129},
		{129, 0, 1, 0, 0, 0, 0},
	}
	for end := 1; end < len(body); end++ {
		out = append(out, body[:end])
	}
	for _, none := range noVarints() {
		out = append(out, none, append(slices.Clone(none), 0, 0, 0, 0, 0))
		for ahead := range 4 {
			out = append(out, slices.Concat([]byte{1, 1}, make([]byte, ahead), none, make([]byte, 3-ahead)))
		}
	}
	return out
}

// P3.2: a body that is none, with its right sum.
func TestReadBytes(t *testing.T) {
	for i, body := range noBodies() {
		b := framed(body)
		what := "no body " + strconv.Itoa(i)
		readsNot(t, what, b, 0, api.ErrBytes)
		readsNot(t, what+", and more behind it", append(b, 0, 0, 0, 0, 0, 0), 0, api.ErrBytes)
	}
}

// P3.2, R3: what is handed in stays, and each answer is memory of its own.
func TestReadLeavesWhatIsHandedIn(t *testing.T) {
	l := some(20, 12)
	b, unchanged := roomy(t, plainFrame(l))
	first, _, _ := Read(b, 0)
	second, _, _ := Read(b, 0)
	clear(first[:cap(first)])
	unchanged()
	if !slices.Equal(second, l) {
		t.Error("two answers share memory")
	}
	clear(b)
	if !slices.Equal(second, l) {
		t.Error("an answer shares memory with what was handed in")
	}
	for _, body := range noBodies() {
		b, unchanged := roomy(t, framed(body))
		Read(b, 0)
		unchanged()
	}
}

// P3.3: what is framed is read, and what is read, framed again, is the same bytes.
func TestFrameIsRead(t *testing.T) {
	for size := 1; size < 140; size++ {
		l := some(size, size)
		b := frame(t, l)
		reads(t, b, 0, l, len(b))
		got, _, _ := Read(b, 0)
		same(t, "framed again", frame(t, got), b)
	}
	for _, l := range lists() {
		b := frame(t, l)
		reads(t, b, 0, l, len(b))
		got, _, _ := Read(b, 0)
		same(t, "framed again", frame(t, got), b)
	}
}

// P3.3: of bodies of any bytes those that are read have that form alone.
func TestFrameHasOneForm(t *testing.T) {
	told := 0
	eachText([]byte{0, 1, 2, 128, 130}, 7, func(body []byte) {
		b := framed(body)
		l, next, e := Read(append(b, 9), 0)
		switch e {
		case api.OK:
			same(t, "framed again", frame(t, l), b)
			told++
			if next != len(b) {
				t.Error(b, next)
			}
		case api.ErrBytes:
		default:
			t.Error(b, e)
		}
	})
	if told < 1000 {
		t.Error("but", told, "were frames")
	}
}
