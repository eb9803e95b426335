// Package words encodes fixed-size integers as bytes and narrows them (layer 1).
package words

import (
	"courierbag/api"
)

const (
	size32 = 4
	size64 = 8
)

// Rot returns x rotated right by n bits, modulo 32; a negative n rotates left.
func Rot(x uint32, n int) uint32 {
	// The mask makes a remainder from 0 to 31 of every n, as % would not of a
	// negative one. A shift by all 32 bits gives 0, which is right where k is 0.
	k := n & 31
	return x>>k | x<<(32-k)
}

// Put32 returns b followed by x as 4 bytes in big-endian order.
func Put32(b []byte, x uint32) []byte { return put(b, uint64(x), size32) }

// Get32 returns the number that the 4 bytes of b from index at on represent.
func Get32(b []byte, at int) (uint32, api.Errno) {
	x, err := get(b, at, size32)
	return uint32(x), err
}

// Put64 returns b followed by x as 8 bytes in big-endian order.
func Put64(b []byte, x uint64) []byte { return put(b, x, size64) }

// Get64 returns the number that the 8 bytes of b from index at on represent.
func Get64(b []byte, at int) (uint64, api.Errno) { return get(b, at, size64) }

// put copies b, since an append to b itself would write into its spare capacity.
func put(b []byte, x uint64, size int) []byte {
	all := make([]byte, len(b), len(b)+size)
	copy(all, b)
	for shift := 8 * (size - 1); shift >= 0; shift -= 8 {
		all = append(all, byte(x>>shift))
	}
	return all
}

func get(b []byte, at, size int) (uint64, api.Errno) {
	if at < 0 || at > len(b) {
		return 0, api.ErrArg
	}
	if len(b)-at < size {
		return 0, api.ErrShort
	}
	var x uint64
	for _, c := range b[at : at+size] {
		x = x<<8 | uint64(c)
	}
	return x, api.OK
}

// Narrow returns the value of n after conversion to an integer type with the
// given number of bits, signed or unsigned.
func Narrow(n, bits int, signed bool) (int, api.Errno) {
	switch bits {
	case 8:
		if signed {
			return int(int8(n)), api.OK
		}
		return int(uint8(n)), api.OK
	case 16:
		if signed {
			return int(int16(n)), api.OK
		}
		return int(uint16(n)), api.OK
	case 32:
		if signed {
			return int(int32(n)), api.OK
		}
		return int(uint32(n)), api.OK
	case 64:
		// An int can't hold every uint64, so n stays as it is, signed or not.
		return n, api.OK
	}
	return 0, api.ErrArg
}
