package fnum

import (
	"math"
)

// float is a float of either width: what is computed is written once for both, and Go rounds to the width that it is.
type float interface {
	float32 | float64
}

func isNaN[F float](x F) bool { return x != x }

func compare[F float](k kind, x, y F) bool {
	switch k {
	case eq:
		return x == y
	case ne:
		return x != y
	case lt:
		return x < y
	case gt:
		return x > y
	case le:
		return x <= y
	}
	return x >= y
}

// unary computes f32 within f64: whole numbers of f32 are exact there, and a root of 53 bits is rounded to 24 as if it were exact, for it has more than twice as many.
func unary[F float](k kind, x F) F {
	wide := float64(x)
	switch k {
	case ceil:
		return F(math.Ceil(wide))
	case floor:
		return F(math.Floor(wide))
	case trunc:
		return F(math.Trunc(wide))
	case nearest:
		return F(math.RoundToEven(wide))
	}
	return F(math.Sqrt(wide))
}

func binary[F float](k kind, x, y F) F {
	switch k {
	case add:
		return x + y
	case sub:
		return x - y
	case mul:
		return x * y
	case div:
		return x / y
	case least:
		return min(x, y)
	}
	return max(x, y)
}

// rounded is the float nearest to a whole number; a signed one stands in all 64 bits.
func rounded[F float](n uint64, signed bool) F {
	if signed {
		return F(int64(n))
	}
	return F(n)
}
