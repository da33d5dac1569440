package bytes

import (
	"encoding/binary"
	"math"
	"slices"
	"testing"

	"amanuensis/api"
)

// same fails unless got is want, byte by byte.
func same(t *testing.T, what string, got, want []byte) {
	t.Helper()
	if !slices.Equal(got, want) {
		t.Errorf("%s: %v, not %v", what, got, want)
	}
}

// roomy gives a copy of b with spare room behind it, and a call that fails if b or that room has changed.
func roomy(t *testing.T, b []byte) ([]byte, func()) {
	const spare = 40
	all := append(slices.Clone(b), slices.Repeat([]byte{238}, spare)...)
	was := slices.Clone(all)
	return all[:len(b)], func() {
		t.Helper()
		same(t, "what was handed in", all, was)
	}
}

// apart fails if writing over an answer changes what was handed in, or the other way round.
func apart(t *testing.T, in, out []byte) {
	t.Helper()
	wasIn := slices.Clone(in)
	whole := out[:cap(out)]
	for i := range whole {
		whole[i] ^= 255
	}
	same(t, "handed in, the answer written over", in, wasIn)
	wasOut := slices.Clone(out)
	for i := range in {
		in[i] ^= 255
	}
	same(t, "the answer, what was handed in written over", out, wasOut)
}

// ends are the least and the greatest number of each length, with their bytes.
func ends() (numbers []uint64, laid [][]byte) {
	numbers, laid = []uint64{0, 127}, [][]byte{{0}, {127}}
	for size := 2; size <= 10; size++ {
		least := append(slices.Repeat([]byte{128}, size-1), 1)
		greatest := append(slices.Repeat([]byte{255}, size-1), 127)
		top := uint64(math.MaxUint64)
		if size == 10 {
			greatest[9] = 1
		} else {
			top = 1<<(7*size) - 1
		}
		numbers = append(numbers, 1<<(7*(size-1)), top)
		laid = append(laid, least, greatest)
	}
	return numbers, laid
}

// P1.1: numbers.
func TestUintLaysOut(t *testing.T) {
	numbers, laid := ends()
	for i, n := range numbers {
		same(t, "an end", Uint(nil, n), laid[i])
	}
	same(t, "1", Uint(nil, 1), []byte{1})
	same(t, "300", Uint(nil, 300), []byte{172, 2})
	same(t, "behind others", Uint([]byte{9, 8}, 300), []byte{9, 8, 172, 2})
	same(t, "behind none", Uint([]byte{}, 0), []byte{0})
	for bit := range 64 {
		for _, n := range []uint64{1 << bit, 1<<bit - 1, 1<<bit + 1, 3 << bit} {
			same(t, "around a bit", Uint(nil, n), binary.AppendUvarint(nil, n))
		}
	}
}

// P1.1: numbers with a sign.
func TestIntLaysOut(t *testing.T) {
	for _, x := range []struct {
		n    int64
		want []byte
	}{
		{0, []byte{0}}, {-1, []byte{1}}, {1, []byte{2}}, {-2, []byte{3}},
		{63, []byte{126}}, {-64, []byte{127}}, {64, []byte{128, 1}}, {-65, []byte{129, 1}},
		{math.MaxInt64, []byte{254, 255, 255, 255, 255, 255, 255, 255, 255, 1}},
		{math.MinInt64, []byte{255, 255, 255, 255, 255, 255, 255, 255, 255, 1}},
	} {
		same(t, "a number with a sign", Int(nil, x.n), x.want)
		same(t, "behind others", Int([]byte{7}, x.n), append([]byte{7}, x.want...))
	}
	for n := int64(-70000); n <= 70000; n++ {
		folded := uint64(2 * n)
		if n < 0 {
			folded = uint64(-2*n - 1)
		}
		if got := Int(nil, n); string(got) != string(Uint(nil, folded)) {
			t.Fatal(n, got)
		}
	}
}

// P1.1: strings.
func TestBlobLaysOut(t *testing.T) {
	same(t, "none", Blob(nil, nil), []byte{0})
	same(t, "an empty one", Blob(nil, []byte{}), []byte{0})
	same(t, "ab", Blob(nil, []byte("ab")), []byte{2, 97, 98})
	same(t, "behind others", Blob([]byte{5}, []byte{0, 255, 128}), []byte{5, 3, 0, 255, 128})
	for _, size := range []int{127, 128, 16383, 16384} {
		b := slices.Repeat([]byte{200}, size)
		same(t, "a long one", Blob(nil, b), append(binary.AppendUvarint(nil, uint64(size)), b...))
	}
}

// P1.1, R3: what is handed in stays, with its spare room, and is not shared.
func TestLayingOutLeavesWhatIsHandedIn(t *testing.T) {
	calls := map[string]func([]byte) []byte{
		"Uint": func(out []byte) []byte { return Uint(out, math.MaxUint64) },
		"Int":  func(out []byte) []byte { return Int(out, math.MinInt64) },
		"Blob": func(out []byte) []byte { return Blob(out, []byte("string")) },
		"Nil":  func(out []byte) []byte { return Blob(out, nil) },
	}
	for name, call := range calls {
		for _, size := range []int{0, 1, 5, 100} {
			out, unchanged := roomy(t, slices.Repeat([]byte{3}, size))
			got := call(out)
			again := call(out)
			unchanged()
			same(t, name+" twice", got, again)
			apart(t, got, again)
			apart(t, out[:cap(out)], call(out))
		}
	}
	b, unchanged := roomy(t, []byte("abc"))
	got := Blob(b[:1], b[1:3])
	unchanged()
	same(t, "both of one memory", got, []byte("a\x02bc"))
	apart(t, b, got)
}

// P1.2: what is laid out is got, wherever it stands.
func TestGotBack(t *testing.T) {
	numbers, _ := ends()
	for bit := range 64 {
		numbers = append(numbers, 1<<bit-1, 1<<bit, 1<<bit+1, math.MaxUint64<<bit)
	}
	for _, ahead := range [][]byte{nil, {128}, {0, 255, 1}} {
		for _, n := range numbers {
			for _, behind := range []string{"", "\x00", "\xff"} {
				laid := Uint(ahead, n)
				got, next, e := GetUint(append(laid, behind...), len(ahead))
				if got != n || next != len(laid) || e != api.OK {
					t.Error(n, got, next, e)
				}
				laid = Int(ahead, int64(n))
				signed, next, e := GetInt(append(laid, behind...), len(ahead))
				if signed != int64(n) || next != len(laid) || e != api.OK {
					t.Error(int64(n), signed, next, e)
				}
			}
		}
	}
}

// noNumber fails unless there is that error at that place, and nothing beside it.
func noNumber(t *testing.T, b []byte, at int, want api.Errno) {
	t.Helper()
	if n, next, e := GetUint(b, at); n != 0 || next != 0 || e != want {
		t.Error("GetUint", b, at, "is", n, next, e, "not", want)
	}
	if n, next, e := GetInt(b, at); n != 0 || next != 0 || e != want {
		t.Error("GetInt", b, at, "is", n, next, e, "not", want)
	}
	if got, next, e := GetBlob(b, at, math.MaxInt); len(got) != 0 || next != 0 || e != want {
		t.Error("GetBlob", b, at, "is", got, next, e, "not", want)
	}
}

// P1.2: places.
func TestPlacesPastTheEnds(t *testing.T) {
	for _, b := range [][]byte{nil, {}, {0}, {1, 2, 3}, {128}, {128, 0}} {
		for _, at := range []int{-1, -2, math.MinInt, len(b) + 1, len(b) + 2, math.MaxInt} {
			noNumber(t, b, at, api.ErrArg)
		}
		noNumber(t, b, len(b), api.ErrShort)
	}
	spare := append(make([]byte, 0, 8), 5)
	noNumber(t, spare, 2, api.ErrArg)
	noNumber(t, spare, 1, api.ErrShort)
}

// P1.2: a number that is cut.
func TestNumberCut(t *testing.T) {
	_, laid := ends()
	for _, b := range laid {
		for end := range len(b) {
			noNumber(t, b[:end], 0, api.ErrShort)
		}
	}
}

// P1.2: bytes that are no number, nor the begin of one.
func TestNoNumber(t *testing.T) {
	for size := 1; size <= 9; size++ {
		for _, x := range []byte{128, 255} {
			b := append(slices.Repeat([]byte{x}, size), 0)
			noNumber(t, b, 0, api.ErrBytes)
			noNumber(t, append(b, 1, 1), 0, api.ErrBytes)
			noNumber(t, append([]byte{5}, b...), 1, api.ErrBytes)
		}
	}
	for last := 2; last < 256; last++ {
		for _, x := range []byte{128, 255} {
			b := append(slices.Repeat([]byte{x}, 9), byte(last))
			noNumber(t, b, 0, api.ErrBytes)
			noNumber(t, append(b, 0), 0, api.ErrBytes)
		}
	}
}

// P1.2: all bytes of three, held against the words of the chapter.
func TestAllOfThreeBytes(t *testing.T) {
	for i := range 1 << 24 {
		x, y, z := byte(i>>16), byte(i>>8), byte(i)
		want, size, err := uint64(x), 1, api.OK
		switch {
		case x < 128:
		case y == 0 || y >= 128 && z == 0:
			want, size, err = 0, 0, api.ErrBytes
		case y < 128:
			want, size = uint64(x-128)+uint64(y)<<7, 2
		case z < 128:
			want, size = uint64(x-128)+uint64(y-128)<<7+uint64(z)<<14, 3
		default:
			want, size, err = 0, 0, api.ErrShort
		}
		if n, next, e := GetUint([]byte{x, y, z}, 0); n != want || next != size || e != err {
			t.Fatal(x, y, z, "is", n, next, e, "not", want, size, err)
		}
	}
}

// P1.2: strings.
func TestGetBlob(t *testing.T) {
	for _, size := range []int{0, 1, 2, 127, 128, 300} {
		b := slices.Repeat([]byte{77}, size)
		laid := Blob([]byte{1, 2}, b)
		for _, most := range []int{size, size + 1, math.MaxInt} {
			for _, behind := range []string{"", "\x09"} {
				got, next, e := GetBlob(append(laid, behind...), 2, most)
				if string(got) != string(b) || next != len(laid) || e != api.OK {
					t.Error(size, most, got, next, e)
				}
			}
		}
		for _, most := range []int{size - 1, -1, math.MinInt} {
			noBlob(t, laid, 2, most, api.ErrLong)
			noBlob(t, laid[:len(laid)-min(size, 1)], 2, most, api.ErrLong) // ahead of ErrShort
		}
		start := len(laid) - size
		for end := start; end < len(laid); end++ {
			noBlob(t, laid[:end], 2, size, api.ErrShort)
		}
	}
}

// noBlob fails unless there is that error at that place, and nothing beside it.
func noBlob(t *testing.T, b []byte, at, most int, want api.Errno) {
	t.Helper()
	if got, next, e := GetBlob(b, at, most); len(got) != 0 || next != 0 || e != want {
		t.Error("GetBlob", b, at, most, "is", got, next, e, "not", want)
	}
}

// P1.2: errors of strings, in their order.
func TestNoBlob(t *testing.T) {
	for _, x := range []struct {
		b        []byte
		at, most int
		want     api.Errno
	}{
		{[]byte{1, 7}, -1, -1, api.ErrArg},
		{[]byte{1, 7}, 3, -1, api.ErrArg},
		{[]byte{1, 7}, 2, -1, api.ErrShort},
		{[]byte{128}, 0, -1, api.ErrShort},
		{[]byte{128, 0}, 0, -1, api.ErrBytes},
		{[]byte{0}, 0, -1, api.ErrLong},
		{[]byte{3, 7}, 0, 2, api.ErrLong},
		{[]byte{3, 7}, 0, 3, api.ErrShort},
		{append(make([]byte, 0, 9), 3, 7), 0, 3, api.ErrShort},
		{Uint(nil, math.MaxInt), 0, math.MaxInt, api.ErrShort},
		{Uint(nil, math.MaxInt), 0, math.MaxInt - 1, api.ErrLong},
		{Uint(nil, math.MaxInt+1), 0, math.MaxInt, api.ErrLong},
		{Uint(nil, math.MaxUint64), 0, math.MaxInt, api.ErrLong},
		{Uint(nil, math.MaxUint64), 0, -1, api.ErrLong},
	} {
		noBlob(t, x.b, x.at, x.most, x.want)
	}
}

// P1.2, R3: what is read stays as it was, and a string is in memory of its own.
func TestReadingLeavesWhatIsHandedIn(t *testing.T) {
	b, unchanged := roomy(t, Blob(nil, []byte("string")))
	first, _, _ := GetBlob(b, 0, 6)
	second, _, _ := GetBlob(b, 0, 6)
	GetUint(b, 0)
	GetInt(b, 0)
	GetBlob(b, 1, math.MaxInt)
	unchanged()
	apart(t, first, second)
	apart(t, b[:cap(b)], second)
}

// page lays out entries of the kinds u (a number), i (one with a sign), b (a string), from the numbers.
func page(kinds string, entries []int64) []byte {
	var out []byte
	for i, k := range kinds {
		switch k {
		case 'u':
			out = Uint(out, uint64(entries[i]))
		case 'i':
			out = Int(out, entries[i])
		case 'b':
			out = Blob(out, slices.Repeat([]byte{1}, int(entries[i]&3)))
		}
	}
	return out
}

// P1.4: pages are the same bytes just if their entries are the same.
func TestPages(t *testing.T) {
	values := []int64{0, 1, 2, 3, 127, 128, 129, 255, 256, 16383, 16384, math.MaxInt64, math.MinInt64, -1, -64, -65}
	for _, kinds := range []string{"u", "i", "b", "uu", "ub", "bu", "bb", "iu", "bib", "uiu", "iub"} {
		seen := map[string][3]int64{}
		for i := range len(values) * len(values) * len(values) {
			list := [3]int64{values[i%16], values[i/16%16], values[i/256]}
			for at := range list {
				if at >= len(kinds) {
					list[at] = 0
				} else if kinds[at] == 'b' {
					list[at] &= 3
				}
			}
			key := string(page(kinds, list[:]))
			if was, ok := seen[key]; ok && was != list {
				t.Fatal(kinds, was, "and", list, "are both", []byte(key))
			}
			seen[key] = list
			if key != string(page(kinds, list[:])) {
				t.Fatal(kinds, list, "has two forms")
			}
		}
	}
}

// P1.4: whoever reads on within a number reads what is left of it.
func TestReadOnWithin(t *testing.T) {
	numbers, _ := ends()
	for _, n := range append(numbers, 300, 1<<40+1, 0xdeadbeefcafe) {
		b := Uint(nil, n)
		for at := range b {
			got, next, e := GetUint(b, at)
			if got != n>>(7*at) || next != len(b) || e != api.OK {
				t.Error(n, at, "is", got, next, e)
			}
		}
	}
}
