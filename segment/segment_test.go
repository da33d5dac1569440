package segment

import (
	"encoding/binary"
	"hash/crc32"
	"math"
	"slices"
	"strconv"
	"testing"

	"amanuensis/api"
	"amanuensis/event"
)

const (
	least = math.MinInt64
	top   = math.MaxInt64
)

// same fails unless got is want, byte by byte.
func same(t *testing.T, what string, got, want []byte) {
	t.Helper()
	if !slices.Equal(got, want) {
		t.Errorf("%s: %v, not %v", what, got, want)
	}
}

// roomy gives a copy of l with spare room behind it, and a call that fails if l or that room has changed.
func roomy[E comparable](t *testing.T, l []E, other E) ([]E, func()) {
	all := append(slices.Clone(l), slices.Repeat([]E{other}, 60)...)
	was := slices.Clone(all)
	return all[:len(l)], func() {
		t.Helper()
		if !slices.Equal(all, was) {
			t.Error("what was handed in has changed")
		}
	}
}

// sealed puts its sum behind b.
func sealed(b []byte) []byte {
	return binary.BigEndian.AppendUint32(slices.Clone(b), crc32.ChecksumIEEE(b))
}

// plainBegin is what the chapter's words have ahead of a head's sum.
func plainBegin(first uint64) []byte {
	return binary.AppendUvarint([]byte{65, 77, 83, 49}, first)
}

// plainHead is what the chapter's words have as the head of the number.
func plainHead(first uint64) []byte {
	return sealed(plainBegin(first))
}

// firsts are numbers that a segment may have, of all lengths of a varint.
func firsts() []int {
	out := []int{0, 1, 1<<62 - 1, 1 << 62}
	for sevens := 1; sevens < 9; sevens++ {
		end := 1 << (7 * sevens)
		out = append(out, end-1, end, end+1)
	}
	return out
}

// noFirsts are numbers that no segment has.
func noFirsts() []int {
	return []int{-1, -2, -128, least, least + 1, 1<<62 + 1, 1<<62 + 128, top - 1, top}
}

// noVarints are bytes that are no varint, nor the begin of one.
func noVarints() [][]byte {
	nine := slices.Repeat([]byte{128}, 9)
	return [][]byte{
		{128, 0},
		{255, 0},
		{128, 128, 0},
		append(slices.Clone(nine), 0),
		append(slices.Clone(nine), 2),
		append(slices.Clone(nine), 129, 1),
		slices.Repeat([]byte{255}, 11),
	}
}

// chance gives numbers that are the same at each run of the tests, the most of them small, or near to an end.
func chance(seed int) func() uint64 {
	x := uint64(seed)*2 + 1
	return func() uint64 {
		x = x*6364136223846793005 + 1442695040888963407
		n := x >> 32 * (x >> 33)
		switch x >> 20 % 4 {
		case 0:
			return n % 200
		case 1:
			return -(n % 200)
		case 2:
			return 1<<63 + n%9 - 4
		}
		return n ^ x<<7
	}
}

// some are so many events of numbers of all sizes.
func some(n, seed int) []api.Event {
	next := chance(seed)
	out := make([]api.Event, n)
	for i := range out {
		out[i] = api.Event{Thread: int(next()), Op: api.Op(next()), Obj: int(next()), A: int64(next()), B: int64(next())}
	}
	return out
}

// frame gives the frame of the events.
func frame(t *testing.T, l []api.Event) []byte {
	t.Helper()
	b, e := event.Frame(l)
	if e != api.OK {
		t.Fatal("a frame of", len(l), e)
	}
	return b
}

// P4.1: a head's bytes.
func TestHead(t *testing.T) {
	if b, e := Head(0); e != api.OK || len(b) != 9 {
		t.Error(b, e)
	}
	for _, n := range firsts() {
		b, e := Head(n)
		same(t, "the head of "+strconv.Itoa(n), b, plainHead(uint64(n)))
		if e != api.OK {
			t.Error(n, e)
		}
	}
}

// P4.1: numbers that have no head.
func TestHeadRefuses(t *testing.T) {
	for _, n := range noFirsts() {
		if b, e := Head(n); len(b) != 0 || e != api.ErrArg {
			t.Error(n, "is", b, e)
		}
	}
}

// P4.1, R3: each answer is memory of its own.
func TestHeadIsNew(t *testing.T) {
	first, _ := Head(5)
	second, _ := Head(5)
	clear(first[:cap(first)])
	same(t, "the other answer", second, plainHead(5))
}

// scans fails unless Scan tells that.
func scans(t *testing.T, what string, b []byte, first int, l []api.Event, end int) {
	t.Helper()
	n, got, at, e := Scan(b)
	if n != first || !slices.Equal(got, l) || at != end || e != api.OK {
		t.Errorf("%s: %d, %d events, %d, error %d, not %d, %d events, %d", what, n, len(got), at, e, first, len(l), end)
	}
}

// scansNot fails unless Scan tells that error, and nothing beside it, whether b has spare room or not.
func scansNot(t *testing.T, what string, b []byte, want api.Errno) {
	t.Helper()
	for _, b := range [][]byte{b, slices.Clip(slices.Clone(b))} {
		if n, l, at, e := Scan(b); n != 0 || len(l) != 0 || at != 0 || e != want {
			t.Errorf("%s: %v is %d, %d events, %d, error %d, not %d", what, b, n, len(l), at, e, want)
		}
	}
}

// P4.2: a head alone.
func TestScanHead(t *testing.T) {
	for _, n := range firsts() {
		b := plainHead(uint64(n))
		scans(t, "a head", b, n, nil, len(b))
	}
}

// P4.2: the events of all frames, and the place behind them.
func TestScan(t *testing.T) {
	for _, n := range firsts() {
		b, l := plainHead(uint64(n)), []api.Event(nil)
		for _, size := range []int{1, 2, 1, 130, api.MaxEvents, 3} {
			more := some(size, size+len(l))
			b, l = append(b, frame(t, more)...), append(l, more...)
			scans(t, "a segment", b, n, l, len(b))
			scans(t, "a segment, and a nought", append(slices.Clone(b), 0), n, l, len(b))
			scans(t, "a segment, and a head", slices.Concat(b, plainHead(9)), n, l, len(b))
		}
	}
}

// P4.2: nothing is told that stands behind the first place where no frame is.
func TestScanStops(t *testing.T) {
	l := some(5, 1)
	good := frame(t, l)
	b := append(plainHead(300), good...)
	wrong := slices.Clone(good)
	wrong[len(wrong)-1]++
	for i, none := range [][]byte{
		{0},
		{0, 0, 0, 0, 0},
		{1},
		{128, 0},
		slices.Repeat([]byte{255}, 11),
		binary.AppendUvarint(nil, api.MaxFrame+1),
		binary.AppendUvarint(nil, 1<<63),
		wrong,
		good[:len(good)-1],
		append([]byte{6}, sealed([]byte{2, 0, 0, 0, 0, 0})...),
	} {
		what := "no frame " + strconv.Itoa(i)
		scans(t, what, slices.Concat(b, none), 300, l, len(b))
		scans(t, what+", and one behind it", slices.Concat(b, none, good), 300, l, len(b))
		scans(t, what+" at once", slices.Concat(plainHead(7), none), 7, nil, len(plainHead(7)))
	}
}

// P4.2: bytes that end within a head, whatever its number; of its sum any bytes stand there.
func TestScanShort(t *testing.T) {
	scansNot(t, "nothing", nil, api.ErrShort)
	for _, n := range firsts() {
		b := plainHead(uint64(n))
		for end := range b {
			scansNot(t, "cut", b[:end], api.ErrShort)
		}
		begin := plainBegin(uint64(n))
		for _, sum := range [][]byte{{0}, {255, 255}, {1, 2, 3}, {b[len(begin)], b[len(begin)+1] ^ 1, b[len(begin)+2]}} {
			scansNot(t, "a sum that is cut", append(slices.Clone(begin), sum...), api.ErrShort)
		}
	}
	for more := 1; more < 10; more++ {
		for _, x := range []byte{128, 255} {
			scansNot(t, "the begin of any number", append([]byte{65, 77, 83, 49}, slices.Repeat([]byte{x}, more)...), api.ErrShort)
		}
	}
}

// P4.2: bytes that no head begins with, be they as few as they may.
func TestScanBytes(t *testing.T) {
	b := append(plainHead(5), frame(t, some(2, 2))...)
	for at := range 4 {
		for bit := range 8 {
			other := slices.Clone(b)
			other[at] ^= 1 << bit
			for end := at + 1; end <= len(b); end++ {
				scansNot(t, "other bytes", other[:end], api.ErrBytes)
			}
			scansNot(t, "other bytes, sealed", append(sealed(other[:5]), 0), api.ErrBytes)
		}
	}
	for _, none := range noVarints() {
		number := append([]byte{65, 77, 83, 49}, none...)
		scansNot(t, "no number", number, api.ErrBytes)
		scansNot(t, "no number, sealed", sealed(number), api.ErrBytes)
		scansNot(t, "no number, and noughts", append(number, 0, 0, 0, 0, 0, 0), api.ErrBytes)
	}
	for _, n := range []uint64{1<<62 + 1, 1<<62 + 128, 1<<63 - 1, 1 << 63, 1<<63 + 1, 1<<64 - 1} {
		begin := plainBegin(n)
		scansNot(t, "a number that is too much", sealed(begin), api.ErrBytes)
		scansNot(t, "one with a frame", append(sealed(begin), frame(t, some(2, 3))...), api.ErrBytes)
		scansNot(t, "one with a wrong sum", append(slices.Clone(begin), 1, 2, 3, 4), api.ErrBytes)
		scansNot(t, "one without a sum", begin, api.ErrBytes)
		scansNot(t, "one with the begin of a sum", append(slices.Clone(begin), 1, 2, 3), api.ErrBytes)
	}
	packed, _ := Pack(0, some(3, 4))
	scansNot(t, "the denser coding", packed, api.ErrBytes)
}

// P4.2: each bit of the head's sum counts, and the sum ahead of the frames.
func TestScanSum(t *testing.T) {
	for _, n := range firsts() {
		b := append(plainHead(uint64(n)), frame(t, some(2, 5))...)
		begin := len(plainBegin(uint64(n)))
		for at := begin; at < begin+4; at++ {
			for bit := range 8 {
				b[at] ^= 1 << bit
				scansNot(t, "a bit", b, api.ErrSum)
				scansNot(t, "a bit, and no frame", b[:begin+4], api.ErrSum)
				b[at] ^= 1 << bit
			}
		}
		scans(t, "as it was", b, n, some(2, 5), len(b))
	}
	other := append(plainBegin(3), plainHead(2)[5:]...)
	scansNot(t, "another number's sum", other, api.ErrSum)
}

// P4.2, R3: what is handed in stays, and each answer is memory of its own.
func TestScanLeavesWhatIsHandedIn(t *testing.T) {
	l := some(20, 6)
	segment := append(plainHead(1), frame(t, l)...)
	b, unchanged := roomy(t, segment, 238)
	_, first, _, _ := Scan(b)
	_, second, _, _ := Scan(b)
	clear(first[:cap(first)])
	unchanged()
	if !slices.Equal(second, l) {
		t.Error("two answers share memory")
	}
	for end := range segment {
		b, unchanged := roomy(t, segment[:end], 238)
		Scan(b)
		unchanged()
	}
}

// P4.4: a segment that is cut anywhere behind its head tells the events of the frames that are whole.
func TestScanOfASegmentThatIsCut(t *testing.T) {
	b := plainHead(1 << 40)
	ends, counts := []int{len(b)}, []int{0}
	var l []api.Event
	for _, size := range []int{1, 3, 1, 20, 2} {
		more := some(size, size)
		b, l = append(b, frame(t, more)...), append(l, more...)
		ends, counts = append(ends, len(b)), append(counts, len(l))
	}
	for end := ends[0]; end <= len(b); end++ {
		whole := 0
		for whole+1 < len(ends) && ends[whole+1] <= end {
			whole++
		}
		scans(t, "cut", b[:end], 1<<40, l[:counts[whole]], ends[whole])
		scans(t, "cut, without spare room", slices.Clip(slices.Clone(b[:end])), 1<<40, l[:counts[whole]], ends[whole])
	}
}
