package bytes

import (
	"hash/crc32"
	"math"
	"slices"
	"testing"

	"amanuensis/api"
)

// sumByBits is the sum as the chapter's words have it, bit by bit.
func sumByBits(b []byte) uint32 {
	sum := uint32(math.MaxUint32)
	for _, x := range b {
		sum ^= uint32(x)
		for range 8 {
			odd := sum%2 == 1
			sum /= 2
			if odd {
				sum ^= 3988292384
			}
		}
	}
	return math.MaxUint32 - sum
}

// samples are bytes of many kinds and lengths, the same ones at each call.
func samples() [][]byte {
	out := [][]byte{nil, {}, []byte("123456789"), {255, 255, 255, 255}, make([]byte, 40)}
	for x := range 256 {
		out = append(out, []byte{byte(x)}, []byte{byte(x), 0}, []byte{0, byte(x)}, []byte{byte(x), 255})
	}
	next := uint32(1)
	for size := range 70 {
		b := make([]byte, size)
		for i := range b {
			next = next*1664525 + 1013904223
			b[i] = byte(next >> 24)
		}
		out = append(out, b)
	}
	return out
}

// P1.1: sums.
func TestCrc(t *testing.T) {
	for _, x := range []struct {
		text string
		want uint32
	}{{"", 0}, {"123456789", 3421780262}, {"\x00", 3523407757}, {"\xff\xff\xff\xff", math.MaxUint32}} {
		if got := Crc([]byte(x.text)); got != x.want {
			t.Error(x.text, got, x.want)
		}
	}
	for _, b := range samples() {
		if got := Crc(b); got != sumByBits(b) || got != crc32.ChecksumIEEE(b) {
			t.Error(b, got)
		}
	}
}

// P1.1: the sum stands behind, the byte with the most weight ahead.
func TestSeal(t *testing.T) {
	same(t, "nothing", Seal(nil), []byte{0, 0, 0, 0})
	same(t, "an empty list", Seal([]byte{}), []byte{0, 0, 0, 0})
	same(t, "digits", Seal([]byte("123456789")), []byte("123456789\xcb\xf4\x39\x26"))
	for _, b := range samples() {
		sum := sumByBits(b)
		want := append(slices.Clone(b), byte(sum>>24), byte(sum>>16), byte(sum>>8), byte(sum))
		same(t, "sealed", Seal(b), want)
	}
}

// P1.1, P1.3, R3: what is handed in stays, with its spare room, and is not shared.
func TestSealingLeavesWhatIsHandedIn(t *testing.T) {
	for _, size := range []int{0, 1, 9, 100} {
		b, unchanged := roomy(t, slices.Repeat([]byte{65}, size))
		Crc(b)
		sealed := Seal(b)
		again := Seal(b)
		unchanged()
		apart(t, sealed, again)
		apart(t, b[:cap(b)], Seal(b))

		s, unchanged := roomy(t, Seal(b))
		got, _ := Unseal(s)
		other, _ := Unseal(s)
		unchanged()
		apart(t, got, other)
		apart(t, s[:cap(s)], other)
	}
}

// P1.3: what was sealed is got.
func TestUnseal(t *testing.T) {
	for _, b := range samples() {
		got, e := Unseal(Seal(b))
		if string(got) != string(b) || e != api.OK {
			t.Error(b, got, e)
		}
	}
}

// notSealed fails unless there is that error, and nothing beside it.
func notSealed(t *testing.T, b []byte, want api.Errno) {
	t.Helper()
	if got, e := Unseal(b); len(got) != 0 || e != want {
		t.Error(b, "is", got, e, "not", want)
	}
}

// P1.3: fewer than four bytes.
func TestUnsealShort(t *testing.T) {
	notSealed(t, nil, api.ErrShort)
	for size := range 4 {
		notSealed(t, make([]byte, size), api.ErrShort)
		notSealed(t, Seal([]byte("abc"))[:size], api.ErrShort)
		notSealed(t, make([]byte, size, 20), api.ErrShort)
	}
}

// P1.3: another sum.
func TestUnsealOther(t *testing.T) {
	notSealed(t, []byte{0, 0, 0, 1}, api.ErrSum)
	notSealed(t, []byte{1, 0, 0, 0}, api.ErrSum)
	notSealed(t, []byte("123456789\x26\x39\xf4\xcb"), api.ErrSum)
	for _, b := range [][]byte{nil, {0}, []byte("123456789"), slices.Repeat([]byte{7}, 30)} {
		sealed := Seal(b)
		for i := range sealed {
			for bit := range 8 {
				other := slices.Clone(sealed)
				other[i] ^= 1 << bit
				notSealed(t, other, api.ErrSum)
			}
		}
		for end := 4; end < len(sealed); end++ {
			notSealed(t, sealed[:end], api.ErrSum)
		}
		notSealed(t, append([]byte{0}, sealed...), api.ErrSum)
	}
}

// P1.4: noughts ahead, and neighbours that change places, are seen.
func TestSumSees(t *testing.T) {
	for _, b := range samples() {
		sum := Crc(b)
		for noughts := 1; noughts < 10; noughts++ {
			if Crc(append(make([]byte, noughts), b...)) == sum {
				t.Error(b, "the same with noughts ahead", noughts)
			}
		}
		for i := 1; i < len(b); i++ {
			turned := slices.Clone(b)
			turned[i-1], turned[i] = b[i], b[i-1]
			if b[i-1] != b[i] && Crc(turned) == sum {
				t.Error(b, "the same with neighbours changed", i)
			}
		}
	}
}

// P1.4: noughts behind are seen, but where all bits of the sum are set.
func TestSumSeesNoughtsBehind(t *testing.T) {
	blind := 0
	for _, b := range samples() {
		sum := Crc(b)
		for noughts := 1; noughts < 10; noughts++ {
			again := Crc(append(slices.Clone(b), make([]byte, noughts)...))
			if (again == sum) != (sum == math.MaxUint32) {
				t.Error(b, sum, "with noughts behind", again)
			}
		}
		if sum == math.MaxUint32 {
			blind++
		}
	}
	if blind == 0 {
		t.Error("no sample has a sum of set bits alone")
	}
}
