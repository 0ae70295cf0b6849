package fnum

import (
	"math"
)

const (
	canon32 = 0x7fc00000
	canon64 = 0x7ff8000000000000
)

// cut leaves of a value as many bits as its width.
func cut(n uint64, width int) uint64 {
	if width == 32 {
		return uint64(uint32(n))
	}
	return n
}

func signBit(width int) uint64 { return 1 << (width - 1) }

func truth(b bool) uint64 {
	if b {
		return 1
	}
	return 0
}

func take32(n uint64) float32 { return math.Float32frombits(uint32(n)) }

func take64(n uint64) float64 { return math.Float64frombits(n) }

// lay32 tells a float's bits; which NaN a computation leaves hangs on the machine, so all of them become one.
func lay32(x float32) uint64 {
	if isNaN(x) {
		return canon32
	}
	return uint64(math.Float32bits(x))
}

// lay64 is lay32 of the other width.
func lay64(x float64) uint64 {
	if isNaN(x) {
		return canon64
	}
	return math.Float64bits(x)
}
