// Package leb is layer 1: see shared/doc/01-leb.md.
package leb

import (
	"ratchet/api"
)

// number is what a reader answers: the type's sign tells which of the two forms its bytes have.
type number interface {
	uint32 | uint64 | int32 | int64
}

// U32 reads an unsigned number of 32 bits.
func U32(b []byte, at, end int) (uint32, int, api.Errno) { return read[uint32](b, at, end, 32) }

// U64 reads an unsigned number of 64 bits.
func U64(b []byte, at, end int) (uint64, int, api.Errno) { return read[uint64](b, at, end, 64) }

// S32 reads a signed number of 32 bits.
func S32(b []byte, at, end int) (int32, int, api.Errno) { return read[int32](b, at, end, 32) }

// S33 reads a signed number of 33 bits.
func S33(b []byte, at, end int) (int64, int, api.Errno) { return read[int64](b, at, end, 33) }

// S64 reads a signed number of 64 bits.
func S64(b []byte, at, end int) (int64, int, api.Errno) { return read[int64](b, at, end, 64) }

// F32 reads a float's 32 bits.
func F32(b []byte, at, end int) (uint32, int, api.Errno) { return readBits[uint32](b, at, end, 4) }

// F64 reads a float's 64 bits.
func F64(b []byte, at, end int) (uint64, int, api.Errno) { return readBits[uint64](b, at, end, 8) }

// read is told the number of bits beside the type, since a number of 33 bits has no type of its own.
func read[T number](b []byte, at, end, bits int) (T, int, api.Errno) {
	if !inside(b, at, end) {
		return 0, 0, api.ErrArg
	}
	signed := ^T(0) < 0
	n := uint64(0)
	for shift := 0; at < end; shift += 7 {
		c := b[at]
		if left := bits - shift; left <= 7 && !mayEnd(c, left, signed) {
			return 0, at, api.ErrForm
		}
		at++
		n |= uint64(c&127) << shift
		if c < 128 {
			return T(withSign(n, shift+7, signed)), at, api.OK
		}
	}
	return 0, end, api.ErrShort
}

// readBits reads size bytes, the lowest first.
func readBits[T uint32 | uint64](b []byte, at, end, size int) (T, int, api.Errno) {
	if !inside(b, at, end) {
		return 0, 0, api.ErrArg
	}
	if end-at < size {
		return 0, end, api.ErrShort
	}
	n := T(0)
	for i, c := range b[at : at+size] {
		n |= T(c) << (8 * i)
	}
	return n, at + size, api.OK
}

func inside(b []byte, at, end int) bool {
	return 0 <= at && at <= end && end <= len(b)
}

// mayEnd tells whether c may be the last byte that may come, where left bits of the number are still to come.
func mayEnd(c byte, left int, signed bool) bool {
	if c >= 128 {
		return false
	}
	if !signed {
		return c>>left == 0
	}
	high := c >> (left - 1)
	return high == 0 || high == 127>>(left-1)
}

// withSign repeats the sign above the number's width; Go shifts by 64 and more to 0, so a number that fills all bits stays as it is.
func withSign(n uint64, width int, signed bool) uint64 {
	if signed && n>>(width-1)&1 == 1 {
		n |= ^uint64(0) << width
	}
	return n
}

// PutU writes the shortest bytes of an unsigned number.
func PutU(n uint64) []byte {
	var out []byte
	for n >= 128 {
		out = append(out, byte(n)|128)
		n >>= 7
	}
	return append(out, byte(n))
}

// PutS writes the shortest bytes of a signed number.
func PutS(n int64) []byte {
	var out []byte
	for n < -64 || n >= 64 {
		out = append(out, byte(n)|128)
		n >>= 7
	}
	return append(out, byte(n)&127)
}

// PutF32 writes a float's 32 bits.
func PutF32(n uint32) []byte { return putBits(uint64(n), 4) }

// PutF64 writes a float's 64 bits.
func PutF64(n uint64) []byte { return putBits(n, 8) }

// putBits writes size bytes, the lowest first.
func putBits(n uint64, size int) []byte {
	out := make([]byte, size)
	for i := range out {
		out[i] = byte(n >> (8 * i))
	}
	return out
}
