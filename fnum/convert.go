package fnum

import (
	"math"

	"ratchet/api"
)

// number is what a conversion from a float takes: f64 holds the numbers of f32 exactly.
func (c conversion) number(a uint64) float64 {
	if c.from == 32 {
		return float64(take32(a))
	}
	return take64(a)
}

// ends are the least number of the type that a conversion gives, and the one behind its greatest: f64 holds both exactly, but not always the greatest.
func (c conversion) ends() (first, behind float64) {
	behind = 1 << 32
	if c.to == 64 {
		behind = 1 << 64
	}
	if c.signed {
		return -behind / 2, behind / 2
	}
	return 0, behind
}

// lowest is the value of the least number of the type that a conversion gives; one below it, wrapped round, is the greatest.
func (c conversion) lowest() uint64 {
	if c.signed {
		return signBit(c.to)
	}
	return 0
}

// toWhole cuts a float towards 0; what is none of the type's numbers becomes the nearest of them, or a trap.
func (c conversion) toWhole(x float64) (uint64, api.Errno) {
	x = math.Trunc(x)
	first, behind := c.ends()
	n, e := uint64(0), api.ErrOver
	switch {
	case isNaN(x):
		e = api.ErrConvert
	case x < first:
		n = c.lowest()
	case x >= behind:
		n = cut(c.lowest()-1, c.to)
	case c.signed:
		return cut(uint64(int64(x)), c.to), api.OK
	default:
		return uint64(x), api.OK
	}
	if c.kind == saturate {
		return n, api.OK
	}
	return 0, e
}

// fromWhole rounds straight to the width that is asked: a stop at f64 on the way to f32 would round twice.
func (c conversion) fromWhole(a uint64) uint64 {
	n := cut(a, c.from)
	if c.signed && c.from == 32 {
		n = uint64(int32(a))
	}
	if c.to == 32 {
		return lay32(rounded[float32](n, c.signed))
	}
	return lay64(rounded[float64](n, c.signed))
}
