package inum

import (
	"math/bits"

	"ratchet/api"
)

// cut leaves of a value the bits that its type has.
func cut(n uint64, t int) uint64 {
	if t == api.TI32 {
		return uint64(uint32(n))
	}
	return n
}

// width is the number of bits of what an operator takes.
func (o operator) width() int {
	if o.takes == api.TI32 {
		return 32
	}
	return 64
}

// signed is the signed reading of a value that the operator takes.
func (o operator) signed(n uint64) int64 {
	if o.takes == api.TI32 {
		return int64(int32(n))
	}
	return int64(n)
}

func truth(b bool) uint64 {
	if b {
		return 1
	}
	return 0
}

// overflows tells whether a is the least number and b is -1: their quotient is one more than the greatest.
func (o operator) overflows(a, b uint64) bool {
	return o.signed(a) == int64(-1)<<(o.width()-1) && o.signed(b) == -1
}

// unary is handed a value that is cut; its answer is still to be cut.
func (o operator) unary(a uint64) uint64 {
	switch o.kind {
	case eqz:
		return truth(a == 0)
	case clz:
		return uint64(bits.LeadingZeros64(a) - (64 - o.width()))
	case ctz:
		return uint64(min(bits.TrailingZeros64(a), o.width()))
	case popcnt:
		return uint64(bits.OnesCount64(a))
	case extend8S:
		return uint64(int8(a))
	case extend16S:
		return uint64(int16(a))
	case extend32S:
		return uint64(int32(a))
	case extendI32S:
		return uint64(o.signed(a))
	}
	// wrap_i64 and extend_i32_u are no more than the cuts ahead and behind.
	return a
}

// binary is handed values that are cut and do not trap; its answer is still to be cut.
func (o operator) binary(a, b uint64) uint64 {
	if o.kind <= geU {
		return truth(o.compare(a, b))
	}
	if o.kind >= shl {
		return o.shift(a, int(b%uint64(o.width())))
	}
	return o.arithmetic(a, b)
}

func (o operator) compare(a, b uint64) bool {
	s, t := o.signed(a), o.signed(b)
	switch o.kind {
	case eq:
		return a == b
	case ne:
		return a != b
	case ltS:
		return s < t
	case ltU:
		return a < b
	case gtS:
		return s > t
	case gtU:
		return a > b
	case leS:
		return s <= t
	case leU:
		return a <= b
	case geS:
		return s >= t
	}
	return a >= b
}

func (o operator) arithmetic(a, b uint64) uint64 {
	switch o.kind {
	case add:
		return a + b
	case sub:
		return a - b
	case mul:
		return a * b
	case divS:
		return uint64(o.signed(a) / o.signed(b))
	case divU:
		return a / b
	case remS:
		return uint64(o.signed(a) % o.signed(b))
	case remU:
		return a % b
	case and:
		return a & b
	case or:
		return a | b
	}
	return a ^ b
}

// shift is handed a count below the width. Where it is 0, a rotation's other part is shifted out as a whole: Go shifts by 64 to 0, and of 32 bits the cuts do it.
func (o operator) shift(a uint64, count int) uint64 {
	switch o.kind {
	case shl:
		return a << count
	case shrS:
		return uint64(o.signed(a) >> count)
	case shrU:
		return a >> count
	case rotl:
		return a<<count | a>>(o.width()-count)
	}
	return a>>count | a<<(o.width()-count)
}
