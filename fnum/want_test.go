package fnum_test

import (
	"math/big"

	"ratchet/api"
)

// What the operators must answer is worked out here by other means than the program's: floats are great whole numbers times powers of 2, computed exactly and rounded once, and no float of Go's is asked.

// form is how a width's bits are laid out.
type form struct {
	width, fraction int
}

var (
	narrow = form{32, 23}
	wide   = form{64, 52}
)

func formOf(width int) form {
	if width == 32 {
		return narrow
	}
	return wide
}

func (f form) mask() uint64     { return ^uint64(0) >> (64 - f.width) }
func (f form) sign() uint64     { return 1 << (f.width - 1) }
func (f form) infinite() uint64 { return f.mask() >> 1 &^ f.low() }
func (f form) low() uint64      { return 1<<f.fraction - 1 }
func (f form) canon() uint64    { return f.infinite() | 1<<(f.fraction-1) }

// bias is what the exponent's bits are above the exponent.
func (f form) bias() int { return 1<<(f.width-f.fraction-2) - 1 }

// exact is a number m * 2^e; with more, it is above that, and below (m + 1) * 2^e.
type exact struct {
	negative bool
	m        *big.Int
	e        int
	more     bool
}

func (f form) isNaN(a uint64) bool { return a&f.mask()&^f.sign() > f.infinite() }

func (f form) isInfinite(a uint64) bool { return a&f.mask()&^f.sign() == f.infinite() }

func (f form) isNought(a uint64) bool { return a&f.mask()&^f.sign() == 0 }

func (f form) isNegative(a uint64) bool { return a&f.sign() != 0 }

// read is the number of a float that is neither a NaN nor infinite.
func (f form) read(a uint64) exact {
	e := int(a & f.infinite() >> f.fraction)
	m := a & f.low()
	if e > 0 {
		m |= 1 << f.fraction
	} else {
		e = 1
	}
	return exact{f.isNegative(a), new(big.Int).SetUint64(m), e - f.bias() - f.fraction, false}
}

// signed is a float's bits with that sign.
func (f form) signed(negative bool, a uint64) uint64 {
	if negative {
		return a | f.sign()
	}
	return a
}

// round is the nearest float, of two that are as near the even one.
func (f form) round(x exact) uint64 {
	m, e := new(big.Int).Lsh(x.m, 2), x.e-2
	if x.more {
		m.SetBit(m, 0, 1)
	}
	if m.Sign() == 0 {
		return f.signed(x.negative, 0)
	}
	// The step is the weight of the last bit that is kept.
	step := max(m.BitLen()+e-1, 1-f.bias()) - f.fraction
	kept := new(big.Int)
	if drop := step - e; drop <= 0 {
		kept.Lsh(m, uint(-drop))
	} else {
		rest := new(big.Int)
		half := new(big.Int).Lsh(big.NewInt(1), uint(drop-1))
		kept.DivMod(m, new(big.Int).Lsh(big.NewInt(1), uint(drop)), rest)
		if c := rest.Cmp(half); c > 0 || c == 0 && kept.Bit(0) == 1 {
			kept.Add(kept, big.NewInt(1))
		}
	}
	n := kept.Uint64()
	if n>>f.fraction == 0 {
		return f.signed(x.negative, n)
	}
	if n>>(f.fraction+1) != 0 {
		n, step = n>>1, step+1
	}
	exponent := uint64(step + f.fraction + f.bias())
	if exponent >= f.infinite()>>f.fraction {
		return f.signed(x.negative, f.infinite())
	}
	return f.signed(x.negative, exponent<<f.fraction|n&f.low())
}

// order is -1, 0 or 1 as a is below b, the same, or above it; there is no NaN.
func (f form) order(a, b uint64) int {
	line := func(a uint64) *big.Int {
		n := new(big.Int).SetUint64(a & f.mask() &^ f.sign())
		if f.isNegative(a) {
			n.Neg(n)
		}
		return n
	}
	return line(a).Cmp(line(b))
}

// whole is a float's number, cut towards 0, and what was cut off: nothing, less than a half, a half, more than a half, as 0 to 3.
func (f form) whole(a uint64) (*big.Int, int) {
	x := f.read(a)
	if x.e >= 0 {
		return x.m.Lsh(x.m, uint(x.e)), 0
	}
	unit := new(big.Int).Lsh(big.NewInt(1), uint(-x.e))
	n, rest := new(big.Int).QuoRem(x.m, unit, new(big.Int))
	if rest.Sign() == 0 {
		return n, 0
	}
	return n, 2 + rest.Lsh(rest, 1).Cmp(unit)
}

func (f form) wantUnary(word string, a uint64) uint64 {
	a &= f.mask()
	switch {
	case word == "abs":
		return a &^ f.sign()
	case word == "neg":
		return a ^ f.sign()
	case f.isNaN(a):
		return f.canon()
	case f.isNought(a):
		return a
	case word == "sqrt" && f.isNegative(a):
		return f.canon()
	case f.isInfinite(a):
		return a
	case word == "sqrt":
		return f.wantRoot(a)
	}
	n, off := f.whole(a)
	up := false
	switch word {
	case "ceil":
		up = off > 0 && !f.isNegative(a)
	case "floor":
		up = off > 0 && f.isNegative(a)
	case "nearest":
		up = off == 3 || off == 2 && n.Bit(0) == 1
	case "trunc":
	default:
		panic("no operator of one float: " + word)
	}
	if up {
		n.Add(n, big.NewInt(1))
	}
	return f.round(exact{f.isNegative(a), n, 0, false})
}

// wantRoot is of a number above 0.
func (f form) wantRoot(a uint64) uint64 {
	x := f.read(a)
	if x.e%2 != 0 {
		x.m.Lsh(x.m, 1)
		x.e--
	}
	x.m.Lsh(x.m, 200)
	root := new(big.Int).Sqrt(x.m)
	more := new(big.Int).Mul(root, root).Cmp(x.m) != 0
	return f.round(exact{false, root, x.e/2 - 100, more})
}

func (f form) wantBinary(word string, a, b uint64) uint64 {
	a, b = a&f.mask(), b&f.mask()
	opposed := f.isNegative(a) != f.isNegative(b)
	switch {
	case word == "copysign":
		return f.signed(f.isNegative(b), a&^f.sign())
	case f.isNaN(a) || f.isNaN(b):
		return f.canon()
	}
	switch word {
	case "add":
		return f.wantSum(a, b)
	case "sub":
		return f.wantSum(a, b^f.sign())
	case "mul":
		return f.wantProduct(a, b, opposed)
	case "div":
		return f.wantQuotient(a, b, opposed)
	case "min", "max":
		return f.wantEnd(word, a, b)
	}
	panic("no operator of two floats: " + word)
}

func (f form) wantSum(a, b uint64) uint64 {
	switch {
	case f.isInfinite(a) && f.isInfinite(b) && a != b:
		return f.canon()
	case f.isInfinite(a):
		return a
	case f.isInfinite(b):
		return b
	case f.isNought(a) && f.isNought(b):
		return a & b
	}
	x, y := f.read(a), f.read(b)
	e := min(x.e, y.e)
	sum := new(big.Int)
	for _, z := range []exact{x, y} {
		z.m.Lsh(z.m, uint(z.e-e))
		if z.negative {
			z.m.Neg(z.m)
		}
		sum.Add(sum, z.m)
	}
	return f.round(exact{sum.Sign() < 0, new(big.Int).Abs(sum), e, false})
}

func (f form) wantProduct(a, b uint64, negative bool) uint64 {
	if f.isInfinite(a) || f.isInfinite(b) {
		if f.isNought(a) || f.isNought(b) {
			return f.canon()
		}
		return f.signed(negative, f.infinite())
	}
	x, y := f.read(a), f.read(b)
	return f.round(exact{negative, x.m.Mul(x.m, y.m), x.e + y.e, false})
}

func (f form) wantQuotient(a, b uint64, negative bool) uint64 {
	switch {
	case f.isInfinite(a) && f.isInfinite(b), f.isNought(a) && f.isNought(b):
		return f.canon()
	case f.isInfinite(a), f.isNought(b):
		return f.signed(negative, f.infinite())
	case f.isInfinite(b):
		return f.signed(negative, 0)
	}
	x, y := f.read(a), f.read(b)
	x.m.Lsh(x.m, 200)
	n, rest := new(big.Int).QuoRem(x.m, y.m, new(big.Int))
	return f.round(exact{negative, n, x.e - y.e - 200, rest.Sign() != 0})
}

func (f form) wantEnd(word string, a, b uint64) uint64 {
	c := f.order(a, b)
	if c == 0 && word == "min" {
		return a | b
	}
	if c == 0 {
		return a & b
	}
	if (c < 0) == (word == "min") {
		return a
	}
	return b
}

func (f form) wantComparison(word string, a, b uint64) uint64 {
	holds := word == "ne"
	if !f.isNaN(a) && !f.isNaN(b) {
		c := f.order(a, b)
		switch word {
		case "eq":
			holds = c == 0
		case "ne":
			holds = c != 0
		case "lt":
			holds = c < 0
		case "gt":
			holds = c > 0
		case "le":
			holds = c <= 0
		case "ge":
			holds = c >= 0
		default:
			panic("no comparison: " + word)
		}
	}
	if holds {
		return 1
	}
	return 0
}

// rangeOf are the least and the greatest number of a type.
func rangeOf(width int, signed bool) (least, greatest *big.Int) {
	one := big.NewInt(1)
	if signed {
		half := new(big.Int).Lsh(one, uint(width-1))
		return new(big.Int).Neg(half), new(big.Int).Sub(half, one)
	}
	return new(big.Int), new(big.Int).Sub(new(big.Int).Lsh(one, uint(width)), one)
}

// valueOf is the value of a whole number of that width.
func valueOf(n *big.Int, width int) uint64 {
	return new(big.Int).Mod(n, new(big.Int).Lsh(big.NewInt(1), uint(width))).Uint64()
}

func (f form) wantWhole(a uint64, width int, signed bool) (uint64, api.Errno) {
	least, greatest := rangeOf(width, signed)
	if f.isNaN(a) {
		return 0, api.ErrConvert
	}
	if !f.isInfinite(a) {
		n, _ := f.whole(a)
		if f.isNegative(a) {
			n.Neg(n)
		}
		if n.Cmp(least) >= 0 && n.Cmp(greatest) <= 0 {
			return valueOf(n, width), api.OK
		}
	}
	if f.isNegative(a) {
		return valueOf(least, width), api.ErrOver
	}
	return valueOf(greatest, width), api.ErrOver
}

// wantRounded is the float of a whole number of that width.
func (f form) wantRounded(a uint64, width int, signed bool) uint64 {
	n := new(big.Int).SetUint64(a & formOf(width).mask())
	if signed && n.Bit(width-1) == 1 {
		n.Sub(n, new(big.Int).Lsh(big.NewInt(1), uint(width)))
	}
	return f.round(exact{n.Sign() < 0, n.Abs(n), 0, false})
}

// wantOther is a float of one width as one of the other.
func (f form) wantOther(a uint64, to form) uint64 {
	switch {
	case f.isNaN(a):
		return to.canon()
	case f.isInfinite(a):
		return to.signed(f.isNegative(a), to.infinite())
	}
	return to.round(f.read(a))
}
