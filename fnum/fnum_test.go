package fnum_test

import (
	"math"
	"strings"
	"testing"

	"ratchet/api"
	"ratchet/fnum"
)

// The words of each row's opcodes, in their order.
const (
	ofOne    = "abs neg ceil floor trunc nearest sqrt"
	ofTwo    = "add sub mul div min max copysign"
	compared = "eq ne lt gt le ge"
)

// row is what the chapter says of one opcode of floats.
type row struct {
	op   int
	word string
	form form
}

func lay(first int, words string, f form) []row {
	var out []row
	for i, word := range strings.Fields(words) {
		out = append(out, row{first + i, word, f})
	}
	return out
}

func unaries() []row { return append(lay(0x8b, ofOne, narrow), lay(0x99, ofOne, wide)...) }

func binaries() []row { return append(lay(0x92, ofTwo, narrow), lay(0xa0, ofTwo, wide)...) }

func comparisons() []row { return append(lay(0x5b, compared, narrow), lay(0x61, compared, wide)...) }

// opOf is the opcode of a word among rows.
func opOf(rows []row, word string, f form) int {
	for _, r := range rows {
		if r.word == word && r.form == f {
			return r.op
		}
	}
	panic("no operator " + word)
}

// toWhole is what the chapter says of an opcode from a float to a whole number.
type toWhole struct {
	op, saturating int
	from           form
	width          int
	signed         bool
}

func toWholes() []toWhole {
	return []toWhole{
		{0xa8, 0xfc00, narrow, 32, true}, {0xa9, 0xfc01, narrow, 32, false}, {0xaa, 0xfc02, wide, 32, true}, {0xab, 0xfc03, wide, 32, false},
		{0xae, 0xfc04, narrow, 64, true}, {0xaf, 0xfc05, narrow, 64, false}, {0xb0, 0xfc06, wide, 64, true}, {0xb1, 0xfc07, wide, 64, false},
	}
}

// fromWhole is what the chapter says of an opcode from a whole number to a float.
type fromWhole struct {
	op     int
	to     form
	width  int
	signed bool
}

func fromWholes() []fromWhole {
	return []fromWhole{
		{0xb2, narrow, 32, true}, {0xb3, narrow, 32, false}, {0xb4, narrow, 64, true}, {0xb5, narrow, 64, false},
		{0xb7, wide, 32, true}, {0xb8, wide, 32, false}, {0xb9, wide, 64, true}, {0xba, wide, 64, false},
	}
}

// anyOps are all opcodes of one byte and behind the prefix, what stands beside them, and numbers at their ends.
func anyOps() []int {
	out := []int{math.MinInt, math.MinInt + 0x92, math.MinInt32, -1 << 16, -0x92, math.MaxInt32, 1 << 32, 1<<32 + 0x92, 1<<32 + 0xa8, 1<<32 + 0xfc00, math.MaxInt - 1, math.MaxInt}
	for op := -0x200; op < 0x400; op++ {
		out = append(out, op)
	}
	for op := 0xfb00; op < 0xfe00; op++ {
		out = append(out, op)
	}
	return out
}

// scatter hands out numbers that look like chance, the same ones each time.
func scatter(count int) []uint64 {
	out := make([]uint64, count)
	n := uint64(0x9e3779b97f4a7c15)
	for i := range out {
		n ^= n << 13
		n ^= n >> 7
		n ^= n << 17
		out[i] = n
	}
	return out
}

// bothSigns doubles a list of floats of either sign, with other high bits where the width leaves some.
func (f form) bothSigns(list []uint64) []uint64 {
	var out []uint64
	for i, a := range list {
		junk := uint64(i) * 0x123456789abcdef1 &^ f.mask()
		out = append(out, a&f.mask()&^f.sign(), a&f.mask()|f.sign(), a&f.mask()&^f.sign()|junk)
	}
	return out
}

// notable are a width's noughts, ends, infinities, NaNs, small and whole numbers and halves, of either sign.
func (f form) notable() []uint64 {
	one := uint64(f.bias()) << f.fraction
	unit := uint64(1) << f.fraction
	list := []uint64{
		0, 1, 2, 3, f.low() - 1, f.low(), unit, unit + 1, 2 * unit, 3*unit + 5,
		f.infinite() - 1, f.infinite() - 2, f.infinite() - unit, f.infinite() - unit - 1, f.infinite(),
		f.canon(), f.canon() + 1, f.infinite() + 1, f.infinite() + unit/4, f.canon() | unit/4, f.infinite() | f.low(),
		one, one + 1, one - 1, one + unit/2, one + unit/2 + 1, one + unit/2 - 1, one + unit, one + unit + 1, one - unit, one - unit + 1, one - unit - 1, one - 2*unit,
		one + unit + unit/4, one + unit + unit/4 + 1, one + unit + unit/4 - 1, one + unit + unit/2, one + 2*unit + unit/8,
		one - uint64(f.fraction)*unit, one - uint64(f.fraction+1)*unit, one - uint64(f.fraction+1)*unit + 1, one + uint64(f.fraction)*unit, one + uint64(f.fraction)*unit - 1, one + uint64(f.fraction-1)*unit + 1, one + uint64(f.fraction-1)*unit + 3, one + uint64(f.fraction)*unit + 1, one + uint64(f.fraction+1)*unit + 1,
		one / 2, one/2 + unit, one/2 + unit/2 + 1, one + one/2, one + one/2 + 1,
	}
	return f.bothSigns(list)
}

// atPowers are what stands at and beside the powers of 2 that end the types of whole numbers.
func (f form) atPowers() []uint64 {
	var list []uint64
	for power := -2; power <= 66; power++ {
		a := uint64(f.bias()+power) << f.fraction
		for k := -3; k <= 3; k++ {
			list = append(list, a+uint64(k))
		}
		list = append(list, a|1<<(f.fraction-1), a|f.low()/2)
		if power >= 0 && power < f.fraction {
			half := uint64(1) << (f.fraction - power - 1)
			list = append(list, a+half, a+half+1, a+half-1, a-half, a-half/2, a|f.low()&^(half-1), a|f.low()&^(half-1)-1)
		}
	}
	return f.bothSigns(list)
}

// many are the notable floats, those at powers, and scattered ones of all exponents and of middling ones.
func (f form) many() []uint64 {
	out := append(f.notable(), f.atPowers()...)
	for _, n := range scatter(1500) {
		out = append(out, n)
		exponent := uint64(f.bias()) - 8 + n>>52%80
		out = append(out, n&(f.low()|f.sign())|exponent<<f.fraction)
	}
	return out
}

// wholes are whole numbers at and beside the powers of 2, sums of two powers, and scattered ones.
func wholes() []uint64 {
	out := scatter(500)
	for i := 0; i < 64; i++ {
		a := uint64(1) << i
		for k := uint64(0); k <= 3; k++ {
			out = append(out, a+k, a-k, -a+k, -a-k)
		}
		for j := 0; j < i; j++ {
			b := uint64(1) << j
			out = append(out, a+b, a-b, a+b+1, a+b-1, a+b+b/2, a+b+b/2+1, a+b+b/2-1, a+b/2*3-1, -a-b, -a-b-1, -a-b+1)
		}
	}
	return out
}

func checkUnary(t *testing.T, op int, a, want uint64) {
	if n, e := fnum.Unary(op, a); n != want || e != api.OK {
		t.Helper()
		t.Errorf("Unary(%x, %x): %x, %d, not %x", op, a, n, e, want)
	}
}

func checkBinary(t *testing.T, op int, a, b, want uint64) {
	if n, e := fnum.Binary(op, a, b); n != want || e != api.OK {
		t.Helper()
		t.Errorf("Binary(%x, %x, %x): %x, %d, not %x", op, a, b, n, e, want)
	}
}

func checkCompare(t *testing.T, op int, a, b, want uint64) {
	if n, e := fnum.Compare(op, a, b); n != want || e != api.OK {
		t.Helper()
		t.Errorf("Compare(%x, %x, %x): %x, %d, not %x", op, a, b, n, e, want)
	}
}

func checkConvert(t *testing.T, op int, a, want uint64, fault api.Errno) {
	if n, e := fnum.Convert(op, a); n != want || e != fault {
		t.Helper()
		t.Errorf("Convert(%x, %x): %x, %d, not %x, %d", op, a, n, e, want, fault)
	}
}

// refuses tells of each opcode that the call is not for whether it is refused with nothing beside it.
func refuses(t *testing.T, name string, takes []int, call func(op int, a, b uint64) (uint64, api.Errno)) {
	t.Helper()
	own := map[int]int{}
	for _, op := range takes {
		own[op]++
	}
	values := []uint64{0, 1, 0x3f800000, 0x7fc00001, 1 << 31, 1 << 63, 0x7ff0000000000001, math.MaxUint64}
	for _, op := range anyOps() {
		for _, a := range values {
			for _, b := range values {
				n, e := call(op, a, b)
				if own[op] == 0 && (n != 0 || e != api.ErrArg) {
					t.Errorf("%s(%x, %x, %x): %x, %d, not 0, ErrArg", name, op, a, b, n, e)
				}
				if own[op] != 0 && e == api.ErrArg {
					t.Errorf("%s(%x, %x, %x): ErrArg", name, op, a, b)
				}
			}
		}
	}
}

func opsOf(rows []row) []int {
	var out []int
	for _, r := range rows {
		out = append(out, r.op)
	}
	return out
}

func TestP41Examples(t *testing.T) {
	checkUnary(t, 0x90, 0x40200000, 0x40000000)
	checkUnary(t, 0x8c, 0x7fc00001, 0xffc00001)
	checkUnary(t, 0x91, 0xbf800000, 0x7fc00000)
	checkUnary(t, 0x91, 0x80000000, 0x80000000)
}

func TestP41OneByOne(t *testing.T) {
	for _, c := range []struct {
		narrow, wide int
		a, n         uint64
		wideA, wideN uint64
		what         string
	}{
		{0x8b, 0x99, 0xbfc00000, 0x3fc00000, 0xbff8000000000000, 0x3ff8000000000000, "abs of -1.5"},
		{0x8b, 0x99, 0xff800001, 0x7f800001, 0xfff0000000000001, 0x7ff0000000000001, "abs of a NaN"},
		{0x8b, 0x99, 0x80000000, 0, 1 << 63, 0, "abs of -0"},
		{0x8c, 0x9a, 0x7f800001, 0xff800001, 0x7ff0000000000001, 0xfff0000000000001, "neg of a NaN"},
		{0x8c, 0x9a, 0, 0x80000000, 0, 1 << 63, "neg of 0"},
		{0x8c, 0x9a, 0xff800000, 0x7f800000, 0xfff0000000000000, 0x7ff0000000000000, "neg of -Inf"},
		{0x8d, 0x9b, 0x3fa00000, 0x40000000, 0x3ff4000000000000, 0x4000000000000000, "ceil of 1.25"},
		{0x8d, 0x9b, 0xbf000000, 0x80000000, 0xbfe0000000000000, 1 << 63, "ceil of -0.5"},
		{0x8d, 0x9b, 1, 0x3f800000, 1, 0x3ff0000000000000, "ceil of the least above 0"},
		{0x8e, 0x9c, 0xbfa00000, 0xc0000000, 0xbff4000000000000, 0xc000000000000000, "floor of -1.25"},
		{0x8e, 0x9c, 0x3f400000, 0, 0x3fe8000000000000, 0, "floor of 0.75"},
		{0x8e, 0x9c, 0x80000001, 0xbf800000, 1<<63 + 1, 0xbff0000000000000, "floor of the greatest below 0"},
		{0x8f, 0x9d, 0xbf7fffff, 0x80000000, 0xbfefffffffffffff, 1 << 63, "trunc of what is above -1"},
		{0x8f, 0x9d, 0xbfc00000, 0xbf800000, 0xbff8000000000000, 0xbff0000000000000, "trunc of -1.5"},
		{0x90, 0x9e, 0x3f000000, 0, 0x3fe0000000000000, 0, "nearest to 0.5"},
		{0x90, 0x9e, 0x3f000001, 0x3f800000, 0x3fe0000000000001, 0x3ff0000000000000, "nearest to what is above 0.5"},
		{0x90, 0x9e, 0xbf000000, 0x80000000, 0xbfe0000000000000, 1 << 63, "nearest to -0.5"},
		{0x90, 0x9e, 0x3fc00000, 0x40000000, 0x3ff8000000000000, 0x4000000000000000, "nearest to 1.5"},
		{0x90, 0x9e, 0x4affffff, 0x4b000000, 0x432fffffffffffff, 0x4330000000000000, "nearest to the greatest that is not whole"},
		{0x91, 0x9f, 0x40000000, 0x3fb504f3, 0x4000000000000000, 0x3ff6a09e667f3bcd, "sqrt of 2"},
		{0x91, 0x9f, 0xff800000, 0x7fc00000, 0xfff0000000000000, 0x7ff8000000000000, "sqrt of -Inf"},
		{0x91, 0x9f, 0x7f800000, 0x7f800000, 0x7ff0000000000000, 0x7ff0000000000000, "sqrt of Inf"},
		{0x91, 0x9f, 0x80000001, 0x7fc00000, 1<<63 + 1, 0x7ff8000000000000, "sqrt of the greatest below 0"},
		{0x91, 0x9f, 0x7f800001, 0x7fc00000, 0xfff0000000000001, 0x7ff8000000000000, "sqrt of a NaN"},
	} {
		for _, high := range []uint64{0, 1 << 63, 0x7ff0000000000000, 0xffffffff00000000} {
			if n, e := fnum.Unary(c.narrow, c.a|high); n != c.n || e != api.OK {
				t.Errorf("f32: %s: %x, %d, not %x", c.what, n, e, c.n)
			}
		}
		if n, e := fnum.Unary(c.wide, c.wideA); n != c.wideN || e != api.OK {
			t.Errorf("f64: %s: %x, %d, not %x", c.what, n, e, c.wideN)
		}
	}
}

func TestP41AllOperators(t *testing.T) {
	for _, r := range unaries() {
		for _, a := range r.form.many() {
			checkUnary(t, r.op, a, r.form.wantUnary(r.word, a))
		}
	}
}

func TestP41Refuses(t *testing.T) {
	refuses(t, "Unary", opsOf(unaries()), func(op int, a, b uint64) (uint64, api.Errno) { return fnum.Unary(op, a^b) })
}

func TestP42Examples(t *testing.T) {
	checkBinary(t, 0x92, 0x3f800000, 0x33800000, 0x3f800000)
	checkBinary(t, 0xa0, 0x7ff0000000000000, 0xfff0000000000000, 0x7ff8000000000000)
	checkBinary(t, 0x96, 0x80000000, 0, 0x80000000)
}

func TestP42OneByOne(t *testing.T) {
	const (
		one, two, least, most, inf, minus, nan = 0x3f800000, 0x40000000, 1, 0x7f7fffff, 0x7f800000, 0x80000000, 0x7fc00000
	)
	for _, c := range []struct {
		op      int
		a, b, n uint64
	}{
		{0x92, one, 0x33800001, one + 1}, {0x92, one + 1, 0x33800000, one + 2}, {0x92, one, one | minus, 0}, {0x92, one | minus, one, 0},
		{0x92, minus, minus, minus}, {0x92, 0, minus, 0}, {0x92, minus, 0, 0}, {0x92, inf, inf | minus, nan}, {0x92, inf, inf, inf}, {0x92, least, least, 2},
		{0x92, most, 0x73000000, inf}, {0x92, most, 0x72ffffff, most}, {0x92, most | minus, 0xf3000000, inf | minus},
		{0x93, one, one, 0}, {0x93, minus, 0, minus}, {0x93, 0, 0, 0}, {0x93, minus, minus, 0}, {0x93, 0, minus, 0}, {0x93, inf, inf, nan}, {0x93, inf, inf | minus, inf},
		{0x94, 0, inf, nan}, {0x94, inf | minus, 0, nan}, {0x94, minus, one, minus}, {0x94, minus, one | minus, 0}, {0x94, least, 0x3f000000, 0}, {0x94, least, 0x3f000001, 1}, {0x94, 3, 0x3f000000, 2}, {0x94, most, two, inf},
		{0x94, one + 1, one + 1, one + 2}, {0x94, least | minus, least, minus},
		{0x95, 0, 0, nan}, {0x95, minus, 0, nan}, {0x95, inf, inf | minus, nan}, {0x95, one, 0, inf}, {0x95, one, minus, inf | minus}, {0x95, one | minus, minus, inf}, {0x95, inf, minus, inf | minus}, {0x95, one, inf | minus, minus},
		{0x95, one, 0x40400000, 0x3eaaaaab}, {0x95, least, two, 0}, {0x95, 3, two, 2}, {0x95, most, least, inf},
		{0x96, 0, minus, minus}, {0x96, minus, 0, minus}, {0x96, one, two, one}, {0x96, inf | minus, nan, nan}, {0x96, nan, inf | minus, nan}, {0x96, 0x7f800001, one, nan}, {0x96, one, inf, one},
		{0x97, 0, minus, 0}, {0x97, minus, 0, 0}, {0x97, minus, minus, minus}, {0x97, one, two, two}, {0x97, inf, nan, nan}, {0x97, 0xffffffff, inf, nan}, {0x97, inf | minus, one | minus, one | minus},
		{0x98, one, minus, one | minus}, {0x98, 0x7f800001, minus, 0xff800001}, {0x98, 0xff800001, 0x7f800002, 0x7f800001}, {0x98, minus, one, 0}, {0x98, one, 0xffc00000, one | minus}, {0x98, one, 1 << 63, one},
	} {
		for _, high := range []uint64{0, 1 << 63, 0x7ff0000000000000, 0xffffffff00000000} {
			checkBinary(t, c.op, c.a|high, c.b, c.n)
			checkBinary(t, c.op, c.a, c.b|high, c.n)
		}
	}
	checkBinary(t, 0xa0, 0x3ff0000000000000, 0x3ca0000000000000, 0x3ff0000000000000)
	checkBinary(t, 0xa0, 0x7fefffffffffffff, 0x7c90000000000000, 0x7ff0000000000000)
	checkBinary(t, 0xa0, 0x7fefffffffffffff, 0x7c8fffffffffffff, 0x7fefffffffffffff)
	checkBinary(t, 0xa3, 0x3ff0000000000000, 0x4008000000000000, 0x3fd5555555555555)
	checkBinary(t, 0xa4, 0xfff0000000000000, 0x7ff0000000000001, 0x7ff8000000000000)
	checkBinary(t, 0xa5, 0x7ff0000000000001, 0x7ff0000000000000, 0x7ff8000000000000)
	checkBinary(t, 0xa6, 0x7ff0000000000001, 1<<63, 0xfff0000000000001)
	checkBinary(t, 0xa6, 0x3ff0000000000000, 0x80000000, 0x3ff0000000000000)
}

// pairs goes over pairs of notable floats, and over scattered ones that are near one another in their exponents.
func (f form) pairs(hand func(a, b uint64)) {
	list := f.notable()
	for _, a := range list {
		for _, b := range list {
			hand(a, b)
		}
	}
	more := f.many()
	for i, a := range more {
		b := more[(i*7+3)%len(more)]
		near := b&f.low() | a&^f.low()
		hand(a, b)
		hand(a, near)
		hand(a, near^f.sign())
		hand(a, near+f.low()+1)
		hand(a, a^f.sign()+1)
	}
}

func TestP42AllOperators(t *testing.T) {
	for _, r := range binaries() {
		r.form.pairs(func(a, b uint64) { checkBinary(t, r.op, a, b, r.form.wantBinary(r.word, a, b)) })
	}
}

func TestP42Refuses(t *testing.T) {
	refuses(t, "Binary", opsOf(binaries()), fnum.Binary)
}

func TestP43OneByOne(t *testing.T) {
	// What each of the six tells, in their order.
	for _, c := range []struct {
		a, b uint64
		told string
	}{
		{0x3f800000, 0x3f800000, "100011"}, {0x3f800000, 0x40000000, "011010"}, {0x40000000, 0x3f800000, "010101"},
		{0, 0x80000000, "100011"}, {0x80000000, 0, "100011"}, {0xbf800000, 0x3f800000, "011010"}, {0xbf800000, 0xc0000000, "010101"},
		{0x7f800000, 0x7f800000, "100011"}, {0xff800000, 0x7f800000, "011010"}, {0x7f7fffff, 0x7f800000, "011010"}, {1, 0, "010101"}, {0x80000001, 0, "011010"},
		{0x7fc00000, 0x7fc00000, "010000"}, {0x7f800001, 0x3f800000, "010000"}, {0x3f800000, 0xffffffff, "010000"}, {0x7f800000, 0x7fc00000, "010000"},
	} {
		for i, told := range c.told {
			for _, high := range []uint64{0, 1 << 63, 0x7ff0000000000000, 0xffffffff00000000} {
				checkCompare(t, 0x5b+i, c.a|high, c.b, uint64(told-'0'))
				checkCompare(t, 0x5b+i, c.a, c.b|high, uint64(told-'0'))
			}
			a, b := narrow.wantOther(c.a, wide), narrow.wantOther(c.b, wide)
			checkCompare(t, 0x61+i, a, b, uint64(told-'0'))
		}
	}
	checkCompare(t, 0x61, 0x7ff0000000000001, 0x7ff0000000000001, 0)
	checkCompare(t, 0x62, 0xffffffffffffffff, 0, 1)
	checkCompare(t, 0x63, 1<<63, 0, 0)
	checkCompare(t, 0x66, 1<<63, 0, 1)
	checkCompare(t, 0x63, 0x3ff0000000000000, 0x3ff0000000000001, 1)
}

func TestP43AllOperators(t *testing.T) {
	for _, r := range comparisons() {
		r.form.pairs(func(a, b uint64) { checkCompare(t, r.op, a, b, r.form.wantComparison(r.word, a, b)) })
	}
}

func TestP43Refuses(t *testing.T) {
	refuses(t, "Compare", opsOf(comparisons()), fnum.Compare)
}
