package fnum_test

import (
	"math"
	"testing"

	"ratchet/api"
	"ratchet/fnum"
)

func TestP44Examples(t *testing.T) {
	checkConvert(t, 0xa8, 0x4f000000, 0, api.ErrOver)
	checkConvert(t, 0xfc00, 0x4f000000, 0x7fffffff, api.OK)
	checkConvert(t, 0xa9, 0xbf000000, 0, api.OK)
	checkConvert(t, 0xa8, 0x7fc00000, 0, api.ErrConvert)
	checkConvert(t, 0xb4, 1<<24+1, 0x4b800000, api.OK)
}

func TestP44EndsOfWholeNumbers(t *testing.T) {
	// Each line: the last float within at the low end and its number, the first one without; the same at the high end.
	for _, c := range []struct {
		op, saturating      int
		low, lowN, below    uint64
		high, highN, above  uint64
		leastOf, greatestOf uint64
	}{
		{0xa8, 0xfc00, 0xcf000000, 1 << 31, 0xcf000001, 0x4effffff, 0x7fffff80, 0x4f000000, 1 << 31, 1<<31 - 1},
		{0xa9, 0xfc01, 0xbf7fffff, 0, 0xbf800000, 0x4f7fffff, 0xffffff00, 0x4f800000, 0, 1<<32 - 1},
		{0xaa, 0xfc02, 0xc1e00000001fffff, 1 << 31, 0xc1e0000000200000, 0x41dfffffffffffff, 1<<31 - 1, 0x41e0000000000000, 1 << 31, 1<<31 - 1},
		{0xab, 0xfc03, 0xbfefffffffffffff, 0, 0xbff0000000000000, 0x41efffffffffffff, 1<<32 - 1, 0x41f0000000000000, 0, 1<<32 - 1},
		{0xae, 0xfc04, 0xdf000000, 1 << 63, 0xdf000001, 0x5effffff, 1<<63 - 1<<39, 0x5f000000, 1 << 63, 1<<63 - 1},
		{0xaf, 0xfc05, 0xbf7fffff, 0, 0xbf800000, 0x5f7fffff, 0xffffff0000000000, 0x5f800000, 0, math.MaxUint64},
		{0xb0, 0xfc06, 0xc3e0000000000000, 1 << 63, 0xc3e0000000000001, 0x43dfffffffffffff, 1<<63 - 1<<10, 0x43e0000000000000, 1 << 63, 1<<63 - 1},
		{0xb1, 0xfc07, 0xbfefffffffffffff, 0, 0xbff0000000000000, 0x43efffffffffffff, 0xfffffffffffff800, 0x43f0000000000000, 0, math.MaxUint64},
	} {
		for _, op := range []int{c.op, c.saturating} {
			checkConvert(t, op, c.low, c.lowN, api.OK)
			checkConvert(t, op, c.high, c.highN, api.OK)
		}
		checkConvert(t, c.op, c.below, 0, api.ErrOver)
		checkConvert(t, c.op, c.above, 0, api.ErrOver)
		checkConvert(t, c.saturating, c.below, c.leastOf, api.OK)
		checkConvert(t, c.saturating, c.above, c.greatestOf, api.OK)
	}
}

func TestP44NoNumbers(t *testing.T) {
	for _, c := range toWholes() {
		f := c.from
		for _, nan := range []uint64{f.canon(), f.canon() | f.sign(), f.infinite() + 1, f.infinite() | f.sign() | f.low(), f.canon() + 1} {
			checkConvert(t, c.op, nan, 0, api.ErrConvert)
			checkConvert(t, c.saturating, nan, 0, api.OK)
		}
		least, greatest := rangeOf(c.width, c.signed)
		checkConvert(t, c.op, f.infinite(), 0, api.ErrOver)
		checkConvert(t, c.op, f.infinite()|f.sign(), 0, api.ErrOver)
		checkConvert(t, c.saturating, f.infinite(), valueOf(greatest, c.width), api.OK)
		checkConvert(t, c.saturating, f.infinite()|f.sign(), valueOf(least, c.width), api.OK)
		for _, op := range []int{c.op, c.saturating} {
			checkConvert(t, op, f.sign(), 0, api.OK)
			checkConvert(t, op, f.sign()|1, 0, api.OK)
		}
	}
}

func TestP44ToWholeNumbers(t *testing.T) {
	for _, c := range toWholes() {
		for _, a := range c.from.many() {
			want, fault := c.from.wantWhole(a, c.width, c.signed)
			checkConvert(t, c.saturating, a, want, api.OK)
			if fault != api.OK {
				want = 0
			}
			checkConvert(t, c.op, a, want, fault)
		}
	}
}

func TestP44FromWholeNumbers(t *testing.T) {
	for _, c := range fromWholes() {
		for _, a := range wholes() {
			checkConvert(t, c.op, a, c.to.wantRounded(a, c.width, c.signed), api.OK)
		}
	}
}

func TestP44FromWholeNumbersOneByOne(t *testing.T) {
	for _, c := range []struct {
		op   int
		a, n uint64
	}{
		{0xb2, 0, 0}, {0xb2, 1<<32 - 1, 0xbf800000}, {0xb2, 1 << 31, 0xcf000000}, {0xb2, 1<<31 - 1, 0x4f000000}, {0xb2, 1 << 32, 0}, {0xb2, 1<<24 + 1, 0x4b800000}, {0xb2, 1<<24 + 3, 0x4b800002},
		{0xb3, 1<<32 - 1, 0x4f800000}, {0xb3, math.MaxUint64, 0x4f800000}, {0xb3, 1 << 31, 0x4f000000},
		// Rounded by way of f64, these would be ties.
		{0xb4, 1<<62 + 1<<38 + 1, 0x5e800001}, {0xb4, 1<<64 - (1<<62 + 1<<38 + 1), 0xde800001}, {0xb5, 1<<63 + 1<<39 + 1, 0x5f000001}, {0xb5, 1<<63 + 3<<39 - 1, 0x5f000001},
		{0xb4, 1<<62 + 1<<38, 0x5e800000}, {0xb4, math.MaxUint64, 0xbf800000}, {0xb5, math.MaxUint64, 0x5f800000}, {0xb4, 1 << 63, 0xdf000000},
		{0xb7, 1<<32 - 1, 0xbff0000000000000}, {0xb7, 1 << 31, 0xc1e0000000000000}, {0xb7, 1<<32 + 1, 0x3ff0000000000000},
		{0xb8, 1<<32 - 1, 0x41efffffffe00000}, {0xb8, math.MaxUint64, 0x41efffffffe00000},
		{0xb9, 1<<53 + 1, 0x4340000000000000}, {0xb9, 1<<53 + 3, 0x4340000000000002}, {0xb9, math.MaxUint64, 0xbff0000000000000}, {0xb9, 1 << 63, 0xc3e0000000000000}, {0xb9, 1<<63 - 1, 0x43e0000000000000},
		{0xba, math.MaxUint64, 0x43f0000000000000}, {0xba, 1<<63 + 1<<10, 0x43e0000000000000}, {0xba, 1<<63 + 1<<10 + 1, 0x43e0000000000001}, {0xba, 1 << 63, 0x43e0000000000000},
	} {
		checkConvert(t, c.op, c.a, c.n, api.OK)
	}
}

func TestP44BetweenFloats(t *testing.T) {
	for _, a := range wide.many() {
		checkConvert(t, 0xb6, a, wide.wantOther(a, narrow), api.OK)
	}
	for _, a := range narrow.many() {
		checkConvert(t, 0xbb, a, narrow.wantOther(a, wide), api.OK)
	}
	// What stands halfway between two floats of 32 bits, and beside it.
	for _, a := range narrow.notable() {
		if a &= narrow.mask(); narrow.isNaN(a) || narrow.isInfinite(a) || narrow.isInfinite(a+1) {
			continue
		}
		n, _ := fnum.Convert(0xbb, a)
		m, _ := fnum.Convert(0xbb, a+1)
		for _, k := range []uint64{0, 1, math.MaxUint64} {
			half := n + (m-n)/2 + k
			checkConvert(t, 0xb6, half, wide.wantOther(half, narrow), api.OK)
		}
	}
	for _, c := range []struct {
		op   int
		a, n uint64
	}{
		{0xb6, 0x3ff0000010000000, 0x3f800000}, {0xb6, 0x3ff0000010000001, 0x3f800001}, {0xb6, 0x3ff0000030000000, 0x3f800002},
		{0xb6, 0x47efffffefffffff, 0x7f7fffff}, {0xb6, 0x47effffff0000000, 0x7f800000}, {0xb6, 0xc7effffff0000000, 0xff800000},
		{0xb6, 0x36a0000000000000, 1}, {0xb6, 0x3690000000000000, 0}, {0xb6, 0x3690000000000001, 1}, {0xb6, 0xb690000000000000, 1 << 31}, {0xb6, 1<<63 + 1, 1 << 31},
		{0xb6, 0xfff0000000000001, 0x7fc00000}, {0xb6, 0x7ff0000000000000, 0x7f800000}, {0xb6, 1 << 63, 1 << 31},
		{0xbb, 1, 0x36a0000000000000}, {0xbb, 0xff800001, 0x7ff8000000000000}, {0xbb, 0xff800000, 0xfff0000000000000}, {0xbb, 1 << 31, 1 << 63}, {0xbb, 0xdeadbeef3f800000, 0x3ff0000000000000},
	} {
		checkConvert(t, c.op, c.a, c.n, api.OK)
	}
}

func TestP44BitsAsTheyAre(t *testing.T) {
	values := append(append(narrow.many(), wide.many()...), math.MaxUint64, 0x7f800001, 0xff800001, 0x7ff0000000000001, 0xfff0000000000001)
	for _, a := range values {
		for _, op := range []int{0xbc, 0xbe} {
			checkConvert(t, op, a, a%(1<<32), api.OK)
		}
		for _, op := range []int{0xbd, 0xbf} {
			checkConvert(t, op, a, a, api.OK)
		}
	}
}

// conversions are all opcodes of Convert.
func conversions() []int {
	out := []int{0xb6, 0xbb, 0xbc, 0xbd, 0xbe, 0xbf}
	for _, c := range toWholes() {
		out = append(out, c.op, c.saturating)
	}
	for _, c := range fromWholes() {
		out = append(out, c.op)
	}
	return out
}

func TestP44Refuses(t *testing.T) {
	refuses(t, "Convert", conversions(), func(op int, a, b uint64) (uint64, api.Errno) { return fnum.Convert(op, a^b) })
	for _, op := range []int{0xa7, 0xac, 0xad, 0xc0, 0xfbff, 0xfc08, 0xfb00, 0} {
		checkConvert(t, op, 0x3f800000, 0, api.ErrArg)
	}
}

func TestP45Nan(t *testing.T) {
	for _, c := range []struct {
		width     int
		a         uint64
		is, canon bool
	}{
		{32, 0x7fc00000, true, true}, {32, 0xffc00000, true, true}, {32, 0xdeadbeef7fc00000, true, true},
		{32, 0x7fc00001, true, false}, {32, 0x7f800001, true, false}, {32, 0xffffffff, true, false}, {32, 0x7fa00000, true, false}, {32, 0x7fe00000, true, false},
		{32, 0x7f800000, false, false}, {32, 0xff800000, false, false}, {32, 0x400000, false, false}, {32, 0, false, false}, {32, 1 << 31, false, false}, {32, 0x7f7fffff, false, false}, {32, 0x7fbfffff, true, false},
		{32, 0x7ff8000000000000, false, false}, {32, 0x7ff800007f800000, false, false},
		{64, 0x7ff8000000000000, true, true}, {64, 0xfff8000000000000, true, true},
		{64, 0x7ff8000000000001, true, false}, {64, 0x7ff0000000000001, true, false}, {64, math.MaxUint64, true, false}, {64, 0x7ffc000000000000, true, false}, {64, 0x7ff7ffffffffffff, true, false},
		{64, 0x7ff0000000000000, false, false}, {64, 0xfff0000000000000, false, false}, {64, 0x8000000000000, false, false}, {64, 0, false, false}, {64, 1 << 63, false, false}, {64, 0x7fc00000, false, false}, {64, 0x7fefffffffffffff, false, false},
	} {
		if is, canon, e := fnum.Nan(c.width, c.a); is != c.is || canon != c.canon || e != api.OK {
			t.Errorf("Nan(%d, %x): %v, %v, %d", c.width, c.a, is, canon, e)
		}
	}
	for _, f := range []form{narrow, wide} {
		for _, a := range f.many() {
			is, canon, e := fnum.Nan(f.width, a)
			if is != f.isNaN(a) || canon != (a&f.mask()|f.sign() == f.canon()|f.sign()) || e != api.OK {
				t.Errorf("Nan(%d, %x): %v, %v, %d", f.width, a, is, canon, e)
			}
		}
	}
}

func TestP45Widths(t *testing.T) {
	if n, e := fnum.Canon(32); n != 0x7fc00000 || e != api.OK {
		t.Errorf("Canon(32): %x, %d", n, e)
	}
	if n, e := fnum.Canon(64); n != 0x7ff8000000000000 || e != api.OK {
		t.Errorf("Canon(64): %x, %d", n, e)
	}
	for _, width := range []int{math.MinInt, -64, -32, -1, 0, 1, 8, 16, 31, 33, 48, 63, 65, 96, 128, 1<<32 + 32, math.MaxInt} {
		if n, e := fnum.Canon(width); n != 0 || e != api.ErrArg {
			t.Errorf("Canon(%d): %x, %d", width, n, e)
		}
		for _, a := range []uint64{0, 0x7fc00000, 0x7ff8000000000000, math.MaxUint64} {
			if is, canon, e := fnum.Nan(width, a); is || canon || e != api.ErrArg {
				t.Errorf("Nan(%d, %x): %v, %v, %d", width, a, is, canon, e)
			}
		}
	}
}
