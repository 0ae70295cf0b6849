package inum_test

import (
	"math/big"
	"slices"
	"strings"

	"ratchet/api"
)

// What the operators must answer is worked out here by other means than the program's: great numbers, and lists of bits.

// readings are a value's unsigned and its signed reading.
func readings(n uint64, bits int) (u, s *big.Int) {
	whole := new(big.Int).Lsh(big.NewInt(1), uint(bits))
	u = new(big.Int).Mod(new(big.Int).SetUint64(n), whole)
	s = new(big.Int).Set(u)
	if u.Bit(bits-1) == 1 {
		s.Sub(s, whole)
	}
	return u, s
}

// modulo is the value of a number of that many bits.
func modulo(n *big.Int, bits int) uint64 {
	whole := new(big.Int).Lsh(big.NewInt(1), uint(bits))
	return new(big.Int).Mod(n, whole).Uint64()
}

// bitsOf are a value's bits, the lowest first.
func bitsOf(n uint64, bits int) []int {
	out := make([]int, bits)
	for i := range out {
		out[i] = int(n >> i & 1)
	}
	return out
}

func valueOf(bits []int) uint64 {
	n := uint64(0)
	for i, b := range bits {
		n += uint64(b) << i
	}
	return n
}

// run is the number of zeros ahead of the first one.
func run(bits []int) uint64 {
	n := slices.Index(bits, 1)
	if n < 0 {
		n = len(bits)
	}
	return uint64(n)
}

func (r row) wantUnary(a uint64) uint64 {
	l := bitsOf(a, r.takes)
	u, s := readings(a, r.takes)
	low := func(bits int) uint64 {
		_, n := readings(a, bits)
		return modulo(n, r.gives)
	}
	switch r.word {
	case "eqz":
		if u.Sign() == 0 {
			return 1
		}
		return 0
	case "clz":
		slices.Reverse(l)
		return run(l)
	case "ctz":
		return run(l)
	case "popcnt":
		n := 0
		for _, b := range l {
			n += b
		}
		return uint64(n)
	case "extend8_s":
		return low(8)
	case "extend16_s":
		return low(16)
	case "extend32_s":
		return low(32)
	case "wrap_i64", "extend_i32_u":
		return modulo(u, r.gives)
	case "extend_i32_s":
		return modulo(s, r.gives)
	}
	panic("no operator of one value: " + r.word)
}

func (r row) wantBinary(a, b uint64) (uint64, api.Errno) {
	u, s := readings(a, r.takes)
	v, t := readings(b, r.takes)
	if strings.HasPrefix(r.word, "div_") || strings.HasPrefix(r.word, "rem_") {
		return r.wantDivision(u, s, v, t)
	}
	if n, ok := wantComparison(r.word, u, s, v, t); ok {
		return n, api.OK
	}
	z := new(big.Int)
	switch r.word {
	case "add":
		return modulo(z.Add(u, v), r.gives), api.OK
	case "sub":
		return modulo(z.Sub(s, t), r.gives), api.OK
	case "mul":
		return modulo(z.Mul(s, t), r.gives), api.OK
	case "and":
		return modulo(z.And(u, v), r.gives), api.OK
	case "or":
		return modulo(z.Or(u, v), r.gives), api.OK
	case "xor":
		return modulo(z.Xor(u, v), r.gives), api.OK
	}
	count := new(big.Int).Mod(v, big.NewInt(int64(r.takes))).Int64()
	return r.wantShift(bitsOf(a, r.takes), int(count)), api.OK
}

func (r row) wantDivision(u, s, v, t *big.Int) (uint64, api.Errno) {
	if v.Sign() == 0 {
		return 0, api.ErrDivide
	}
	z := new(big.Int)
	switch r.word {
	case "div_s":
		z.Quo(s, t)
		if z.Cmp(new(big.Int).Lsh(big.NewInt(1), uint(r.takes-1))) == 0 {
			return 0, api.ErrOverflow
		}
	case "div_u":
		z.Quo(u, v)
	case "rem_s":
		z.Rem(s, t)
	case "rem_u":
		z.Rem(u, v)
	}
	return modulo(z, r.gives), api.OK
}

func wantComparison(word string, u, s, v, t *big.Int) (uint64, bool) {
	unsigned, signed := u.Cmp(v), s.Cmp(t)
	var holds bool
	switch word {
	case "eq":
		holds = unsigned == 0
	case "ne":
		holds = unsigned != 0
	case "lt_s":
		holds = signed < 0
	case "lt_u":
		holds = unsigned < 0
	case "gt_s":
		holds = signed > 0
	case "gt_u":
		holds = unsigned > 0
	case "le_s":
		holds = signed <= 0
	case "le_u":
		holds = unsigned <= 0
	case "ge_s":
		holds = signed >= 0
	case "ge_u":
		holds = unsigned >= 0
	default:
		return 0, false
	}
	if holds {
		return 1, true
	}
	return 0, true
}

// wantShift goes by one place at a time.
func (r row) wantShift(l []int, count int) uint64 {
	last := len(l) - 1
	for range count {
		switch r.word {
		case "shl":
			l = append([]int{0}, l[:last]...)
		case "shr_s":
			l = append(l[1:], l[last])
		case "shr_u":
			l = append(l[1:], 0)
		case "rotl":
			l = append([]int{l[last]}, l[:last]...)
		case "rotr":
			l = append(l[1:], l[0])
		default:
			panic("no operator of two values: " + r.word)
		}
	}
	return valueOf(l)
}
