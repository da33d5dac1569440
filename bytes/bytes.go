// Package bytes is layer 1: numbers, strings and sums as bytes (shared/doc/01-bytes.md).
package bytes

import (
	"slices"

	"amanuensis/api"
)

const (
	longest = 10  // bytes of a number of 64 bits
	more    = 128 // the bit of a byte behind which its number goes on
)

// Uint gives out, and n laid out behind it.
func Uint(out []byte, n uint64) []byte {
	out = slices.Clip(out) // without spare room to write into, the caller's memory stays as it was
	for n >= more {
		out = append(out, byte(n)|more)
		n >>= 7
	}
	return append(out, byte(n))
}

// Int gives out, and n with its sign laid out behind it.
func Int(out []byte, n int64) []byte {
	return Uint(out, fold(n))
}

// Blob gives out, and the string b laid out behind it.
func Blob(out, b []byte) []byte {
	return append(Uint(out, uint64(len(b))), b...)
}

// GetUint tells the number at the place at, and the place behind it.
func GetUint(b []byte, at int) (uint64, int, api.Errno) {
	if at < 0 || at > len(b) {
		return 0, 0, api.ErrArg
	}
	var n uint64
	for i := range longest {
		if at+i == len(b) {
			return 0, 0, api.ErrShort
		}
		x := b[at+i]
		if !mayStand(x, i) {
			return 0, 0, api.ErrBytes
		}
		n |= uint64(x&^more) << (7 * i)
		if x < more {
			return n, at + i + 1, api.OK
		}
	}
	return 0, 0, api.ErrBytes
}

// GetInt tells the number with a sign at the place at, and the place behind it.
func GetInt(b []byte, at int) (int64, int, api.Errno) {
	n, next, e := GetUint(b, at)
	return unfold(n), next, e
}

// GetBlob tells the string at the place at, of at most so many bytes, and the place behind it.
func GetBlob(b []byte, at, most int) ([]byte, int, api.Errno) {
	n, next, e := GetUint(b, at)
	if e != api.OK {
		return nil, 0, e
	}
	if most < 0 || n > uint64(most) {
		return nil, 0, api.ErrLong
	}
	if n > uint64(len(b)-next) {
		return nil, 0, api.ErrShort
	}
	end := next + int(n)
	return append([]byte(nil), b[next:end]...), end, api.OK
}

// fold gives numbers near 0, of either sign, few bytes.
func fold(n int64) uint64 {
	return uint64(n)<<1 ^ uint64(n>>63)
}

func unfold(n uint64) int64 {
	return int64(n>>1) ^ -int64(n&1)
}

// mayStand tells whether the byte x can be the i-th of a number: each number has one form alone, so none ends with noughts, and what stands last of all has but one bit left.
func mayStand(x byte, i int) bool {
	if x == 0 {
		return i == 0
	}
	return i < longest-1 || x == 1
}
