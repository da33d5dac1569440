package bytes

import (
	"slices"

	"amanuensis/api"
)

const (
	turned  = 3988292384 // what an odd number is turned by when it is halved
	sumSize = 4          // bytes of a sum
)

// Crc tells the sum of b.
func Crc(b []byte) uint32 {
	halves := halvedFourTimes()
	sum := ^uint32(0)
	for _, x := range b {
		sum ^= uint32(x)
		for range 2 {
			sum = sum>>4 ^ halves[sum&15]
		}
	}
	return ^sum
}

// Seal gives b, and its sum behind it.
func Seal(b []byte) []byte {
	sum := laidOut(Crc(b))
	return append(slices.Clip(b), sum[:]...) // clipped, so that the caller's spare room stays as it was
}

// Unseal gives what was sealed as b.
func Unseal(b []byte) ([]byte, api.Errno) {
	if len(b) < sumSize {
		return nil, api.ErrShort
	}
	body, sum := b[:len(b)-sumSize], b[len(b)-sumSize:]
	if [sumSize]byte(sum) != laidOut(Crc(body)) {
		return nil, api.ErrSum
	}
	return append([]byte(nil), body...), api.OK
}

// halvedFourTimes tells of each half byte what it turns a sum by: halving hangs on each bit by itself, so the low four bits can be halved apart from the others.
func halvedFourTimes() [16]uint32 {
	var out [16]uint32
	for i := range out {
		n := uint32(i)
		for range 4 {
			n = halve(n)
		}
		out[i] = n
	}
	return out
}

func halve(n uint32) uint32 {
	if n&1 == 1 {
		return n>>1 ^ turned
	}
	return n >> 1
}

// laidOut gives the bytes of a sum, the one with the most weight ahead.
func laidOut(sum uint32) [sumSize]byte {
	var out [sumSize]byte
	for i := range out {
		out[i] = byte(sum >> (8 * (sumSize - 1 - i)))
	}
	return out
}
