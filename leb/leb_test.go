package leb_test

import (
	"bytes"
	"math"
	"math/big"
	"testing"

	"ratchet/api"
	"ratchet/leb"
)

// answer is what a reader tells, its number as one that all of them have in common.
type answer struct {
	n  string
	at int
	e  api.Errno
}

// reader is one of the readers of numbers, with what the chapter says of its kind.
type reader struct {
	name   string
	bits   uint
	signed bool
	read   func(b []byte, at, end int) answer
}

func (r reader) most() int { return int(r.bits+6) / 7 }

func told[T uint32 | uint64 | int32 | int64](f func([]byte, int, int) (T, int, api.Errno)) func([]byte, int, int) answer {
	return func(b []byte, at, end int) answer {
		n, next, e := f(b, at, end)
		text := new(big.Int).SetUint64(uint64(n))
		if n < 0 {
			text.SetInt64(int64(n))
		}
		return answer{text.String(), next, e}
	}
}

func readers() []reader {
	return []reader{
		{"U32", 32, false, told(leb.U32)},
		{"U64", 64, false, told(leb.U64)},
		{"S32", 32, true, told(leb.S32)},
		{"S33", 33, true, told(leb.S33)},
		{"S64", 64, true, told(leb.S64)},
	}
}

// want works the answer out by great numbers: a row of bytes is a number's if it ends in time and its worth is one of the kind's.
func (r reader) want(b []byte, at, end int) answer {
	worth := new(big.Int)
	for i := 0; ; i++ {
		if at+i == end {
			return answer{"0", end, api.ErrShort}
		}
		c := b[at+i]
		worth.Add(worth, new(big.Int).Lsh(big.NewInt(int64(c&127)), uint(7*i)))
		if c >= 128 && i+1 < r.most() {
			continue
		}
		if r.signed && c&64 != 0 {
			worth.Sub(worth, new(big.Int).Lsh(big.NewInt(1), uint(7*i+7)))
		}
		if c >= 128 || !r.has(worth) {
			return answer{"0", at + i, api.ErrForm}
		}
		return answer{worth.String(), at + i + 1, api.OK}
	}
}

func (r reader) has(worth *big.Int) bool {
	low, high := new(big.Int), new(big.Int).Lsh(big.NewInt(1), r.bits)
	if r.signed {
		high.Rsh(high, 1)
		low.Neg(high)
	}
	return low.Cmp(worth) <= 0 && worth.Cmp(high) < 0
}

func (r reader) check(t *testing.T, b []byte, at, end int) {
	t.Helper()
	if got, want := r.read(b, at, end), r.want(b, at, end); got != want {
		t.Errorf("%s(%x, %d, %d) = %v, want %v", r.name, b, at, end, got, want)
	}
}

// someUnsigned are numbers at and beside all powers of two.
func someUnsigned() []uint64 {
	l := []uint64{0, math.MaxUint64, 0x0123456789abcdef, 624485}
	for i := range 64 {
		p := uint64(1) << i
		l = append(l, p-1, p, p+1, -p)
	}
	return l
}

func someSigned() []int64 {
	var l []int64
	for _, n := range someUnsigned() {
		l = append(l, int64(n), -int64(n))
	}
	return l
}

func TestLE1Examples(t *testing.T) {
	for _, x := range []struct {
		read string
		b    []byte
		want answer
	}{
		{"U32", []byte{0x80, 0x80, 0x80, 0x80, 0x10}, answer{"0", 4, api.ErrForm}},
		{"U32", []byte{0xff, 0xff, 0xff, 0xff, 0x0f}, answer{"4294967295", 5, api.OK}},
		{"U32", []byte{0x80, 0x00}, answer{"0", 2, api.OK}},
		{"U32", []byte{0x80}, answer{"0", 1, api.ErrShort}},
		{"U32", []byte{0xe5, 0x8e, 0x26}, answer{"624485", 3, api.OK}},
		{"U32", []byte{0x80, 0x80, 0x80, 0x80, 0x80, 0x00}, answer{"0", 4, api.ErrForm}},
		{"U64", []byte{0xff, 0xff, 0xff, 0xff, 0xff, 0xff, 0xff, 0xff, 0xff, 0x01}, answer{"18446744073709551615", 10, api.OK}},
		{"U64", []byte{0xff, 0xff, 0xff, 0xff, 0xff, 0xff, 0xff, 0xff, 0xff, 0x02}, answer{"0", 9, api.ErrForm}},
		{"S32", []byte{0x7f}, answer{"-1", 1, api.OK}},
		{"S32", []byte{0xff, 0xff, 0xff, 0xff, 0x0f}, answer{"0", 4, api.ErrForm}},
		{"S32", []byte{0xff, 0xff, 0xff, 0xff, 0x7f}, answer{"-1", 5, api.OK}},
		{"S32", []byte{0xff, 0xff, 0xff, 0xff, 0x07}, answer{"2147483647", 5, api.OK}},
		{"S32", []byte{0x80, 0x80, 0x80, 0x80, 0x78}, answer{"-2147483648", 5, api.OK}},
		{"S32", []byte{0xc0, 0xbb, 0x78}, answer{"-123456", 3, api.OK}},
		{"S33", []byte{0x80, 0x80, 0x80, 0x80, 0x70}, answer{"-4294967296", 5, api.OK}},
		{"S33", []byte{0xff, 0xff, 0xff, 0xff, 0x0f}, answer{"4294967295", 5, api.OK}},
		{"S33", []byte{0x80, 0x80, 0x80, 0x80, 0x50}, answer{"0", 4, api.ErrForm}},
		{"S64", []byte{0x80, 0x80, 0x80, 0x80, 0x80, 0x80, 0x80, 0x80, 0x80, 0x7f}, answer{"-9223372036854775808", 10, api.OK}},
		{"S64", []byte{0x80, 0x80, 0x80, 0x80, 0x80, 0x80, 0x80, 0x80, 0x80, 0x01}, answer{"0", 9, api.ErrForm}},
		{"S64", []byte{0xff, 0xff, 0xff, 0xff, 0xff, 0xff, 0xff, 0xff, 0xff, 0x00}, answer{"9223372036854775807", 10, api.OK}},
	} {
		for _, r := range readers() {
			if got := r.read(x.b, 0, len(x.b)); r.name == x.read && got != x.want {
				t.Errorf("%s(%x) = %v, want %v", x.read, x.b, got, x.want)
			}
		}
	}
}

func TestLE1ShortRows(t *testing.T) {
	for _, r := range readers() {
		for i := range 1 << 16 {
			b := []byte{byte(i), byte(i >> 8)}
			r.check(t, b, 0, 2)
			r.check(t, b, 0, 1)
			r.check(t, b, 1, 2)
		}
	}
}

// Every last byte, behind every number of bytes that go on: among them the last one that may come.
func TestLE1LastBytes(t *testing.T) {
	for _, r := range readers() {
		for _, fill := range []byte{0x80, 0xff, 0xc0, 0xaa, 0xd5} {
			for long := range 12 {
				for last := range 256 {
					b := append(bytes.Repeat([]byte{fill}, long), byte(last), 0x80, 0x00)
					r.check(t, b, 0, len(b))
					r.check(t, b, 0, long+1)
					r.check(t, b, 0, long)
				}
			}
		}
	}
}

func TestLE1Floats(t *testing.T) {
	b := []byte{9, 1, 2, 3, 0x84, 5, 6, 7, 0x88, 9}
	if n, at, e := leb.F32(b, 1, 10); n != 0x84030201 || at != 5 || e != api.OK {
		t.Errorf("F32 = %x, %d, %d", n, at, e)
	}
	if n, at, e := leb.F32(b, 1, 5); n != 0x84030201 || at != 5 || e != api.OK {
		t.Errorf("F32 up to the end = %x, %d, %d", n, at, e)
	}
	if n, at, e := leb.F64(b, 1, 9); n != 0x8807060584030201 || at != 9 || e != api.OK {
		t.Errorf("F64 = %x, %d, %d", n, at, e)
	}
	for end := 1; end < 9; end++ {
		if n, at, e := leb.F64(b, 1, end); n != 0 || at != end || e != api.ErrShort {
			t.Errorf("F64 up to %d = %x, %d, %d", end, n, at, e)
		}
		if n, at, e := leb.F32(b, 1, end); end < 5 && (n != 0 || at != end || e != api.ErrShort) {
			t.Errorf("F32 up to %d = %x, %d, %d", end, n, at, e)
		}
	}
}

func TestLE1Places(t *testing.T) {
	all := append(readers(), reader{name: "F32", read: told(leb.F32)}, reader{name: "F64", read: told(leb.F64)})
	none := answer{"0", 0, api.ErrArg}
	eight := make([]byte, 8)
	for _, r := range all {
		for _, x := range []struct {
			b       []byte
			at, end int
		}{
			{eight, -1, 8}, {eight, 0, 9}, {eight, 3, 2}, {eight, 9, 9}, {eight, 0, -1}, {eight, -2, -1}, {nil, 1, 0}, {nil, 0, 1},
			{eight, math.MinInt, 8}, {eight, 0, math.MaxInt}, {eight, math.MinInt, math.MaxInt}, {eight, math.MaxInt, math.MinInt}, {eight, math.MaxInt, math.MaxInt},
			{make([]byte, 2, 8), 0, 3},
		} {
			if got := r.read(x.b, x.at, x.end); got != none {
				t.Errorf("%s(%d bytes, %d, %d) = %v", r.name, len(x.b), x.at, x.end, got)
			}
		}
		for _, at := range []int{0, 3, 8} {
			if got := r.read(eight, at, at); got != (answer{"0", at, api.ErrShort}) {
				t.Errorf("%s of nothing at %d = %v", r.name, at, got)
			}
		}
		for _, b := range [][]byte{nil, {}} {
			if got := r.read(b, 0, 0); got != (answer{"0", 0, api.ErrShort}) {
				t.Errorf("%s of no bytes = %v", r.name, got)
			}
		}
	}
}

func TestLE2Numbers(t *testing.T) {
	for _, x := range []struct {
		n    uint64
		want []byte
	}{
		{0, []byte{0}}, {1, []byte{1}}, {127, []byte{0x7f}}, {128, []byte{0x80, 1}}, {16383, []byte{0xff, 0x7f}}, {16384, []byte{0x80, 0x80, 1}},
		{math.MaxUint64, []byte{0xff, 0xff, 0xff, 0xff, 0xff, 0xff, 0xff, 0xff, 0xff, 1}},
	} {
		if got := leb.PutU(x.n); !bytes.Equal(got, x.want) {
			t.Errorf("PutU(%d) = %x, want %x", x.n, got, x.want)
		}
	}
	for _, x := range []struct {
		n    int64
		want []byte
	}{
		{0, []byte{0}}, {-1, []byte{0x7f}}, {63, []byte{0x3f}}, {64, []byte{0xc0, 0}}, {-64, []byte{0x40}}, {-65, []byte{0xbf, 0x7f}}, {8191, []byte{0xff, 0x3f}}, {8192, []byte{0x80, 0xc0, 0}}, {-8192, []byte{0x80, 0x40}}, {-8193, []byte{0xff, 0xbf, 0x7f}},
		{math.MaxInt64, []byte{0xff, 0xff, 0xff, 0xff, 0xff, 0xff, 0xff, 0xff, 0xff, 0}},
		{math.MinInt64, []byte{0x80, 0x80, 0x80, 0x80, 0x80, 0x80, 0x80, 0x80, 0x80, 0x7f}},
	} {
		if got := leb.PutS(x.n); !bytes.Equal(got, x.want) {
			t.Errorf("PutS(%d) = %x, want %x", x.n, got, x.want)
		}
	}
}

func TestLE2Floats(t *testing.T) {
	if got := leb.PutF32(0x84030201); !bytes.Equal(got, []byte{1, 2, 3, 0x84}) {
		t.Errorf("PutF32 = %x", got)
	}
	if got := leb.PutF64(0x8807060504030201); !bytes.Equal(got, []byte{1, 2, 3, 4, 5, 6, 7, 0x88}) {
		t.Errorf("PutF64 = %x", got)
	}
	if len(leb.PutF32(0)) != 4 || len(leb.PutF64(0)) != 8 {
		t.Error("a float of 0 is as long as all others")
	}
	for _, n := range someUnsigned() {
		if got, at, e := leb.F32(leb.PutF32(uint32(n)), 0, 4); got != uint32(n) || at != 4 || e != api.OK {
			t.Errorf("F32 of PutF32(%x) = %x, %d, %d", uint32(n), got, at, e)
		}
		if got, at, e := leb.F64(leb.PutF64(n), 0, 8); got != n || at != 8 || e != api.OK {
			t.Errorf("F64 of PutF64(%x) = %x, %d, %d", n, got, at, e)
		}
	}
}

func TestLE2NewMemory(t *testing.T) {
	one, other := leb.PutU(5), leb.PutU(5)
	one[0] = 7
	if other[0] != 5 || leb.PutU(5)[0] != 5 {
		t.Error("two answers share their memory")
	}
}

// between lays b among other bytes, some of which would go on with a number.
func between(b []byte, edge byte, n int) []byte {
	side := bytes.Repeat([]byte{edge}, n)
	return append(append(bytes.Clone(side), b...), side...)
}

func TestLE6ReadBack(t *testing.T) {
	for _, edge := range []byte{0x00, 0x7f, 0x80, 0xff} {
		for at := range 3 {
			for _, n := range someUnsigned() {
				b := leb.PutU(n)
				if got, next, e := leb.U64(between(b, edge, at), at, len(b)+2*at); got != n || next != at+len(b) || e != api.OK {
					t.Errorf("U64 of PutU(%d) = %d, %d, %d", n, got, next, e)
				}
			}
			for _, n := range someSigned() {
				b := leb.PutS(n)
				if got, next, e := leb.S64(between(b, edge, at), at, len(b)+2*at); got != n || next != at+len(b) || e != api.OK {
					t.Errorf("S64 of PutS(%d) = %d, %d, %d", n, got, next, e)
				}
			}
		}
	}
}

// A row of k bytes is worth less than 2^(7k), from -2^(7k - 1) to 2^(7k - 1) - 1 if signed: what does not fit into one byte less has no shorter row.
func TestLE6Shortest(t *testing.T) {
	for _, n := range someUnsigned() {
		if k := len(leb.PutU(n)) - 1; k > 0 && n>>(7*k) == 0 {
			t.Errorf("PutU(%d) = %x is not the shortest", n, leb.PutU(n))
		}
	}
	for _, n := range someSigned() {
		if k := len(leb.PutS(n)) - 1; k > 0 && (n>>(7*k-1) == 0 || n>>(7*k-1) == -1) {
			t.Errorf("PutS(%d) = %x is not the shortest", n, leb.PutS(n))
		}
	}
}

// rows are bytes of numbers, short and long ones, and what is nearly one.
func rows() [][]byte {
	var l [][]byte
	for _, fill := range []byte{0x80, 0xff, 0xb6} {
		for long := range 11 {
			for last := range 256 {
				l = append(l, append(bytes.Repeat([]byte{fill}, long), byte(last)))
			}
		}
	}
	return l
}

func TestLE6WiderReaders(t *testing.T) {
	taken := 0
	for _, b := range rows() {
		if n, at, e := leb.U32(b, 0, len(b)); e == api.OK {
			taken++
			if w, to, e := leb.U64(b, 0, len(b)); w != uint64(n) || to != at || e != api.OK {
				t.Errorf("U64(%x) = %d, %d, %d, U32 %d, %d", b, w, to, e, n, at)
			}
		}
		n, at, e := leb.S32(b, 0, len(b))
		if e != api.OK {
			continue
		}
		taken++
		if w, to, e := leb.S33(b, 0, len(b)); w != int64(n) || to != at || e != api.OK {
			t.Errorf("S33(%x) = %d, %d, %d, S32 %d, %d", b, w, to, e, n, at)
		}
		if w, to, e := leb.S64(b, 0, len(b)); w != int64(n) || to != at || e != api.OK {
			t.Errorf("S64(%x) = %d, %d, %d, S32 %d, %d", b, w, to, e, n, at)
		}
	}
	if taken < 1000 {
		t.Errorf("only %d rows were taken", taken)
	}
}

func TestLE6Beginnings(t *testing.T) {
	for _, r := range readers() {
		for _, b := range rows() {
			got := r.read(b, 0, len(b))
			if got.e != api.OK {
				continue
			}
			for end := range got.at {
				if part := r.read(b, 0, end); part != (answer{"0", end, api.ErrShort}) {
					t.Errorf("%s(%x up to %d) = %v", r.name, b, end, part)
				}
				if part := r.read(b[:end], 0, end); part != (answer{"0", end, api.ErrShort}) {
					t.Errorf("%s(%x) = %v", r.name, b[:end], part)
				}
			}
		}
	}
}

func TestReadersLeaveBytesAsTheyAre(t *testing.T) {
	b := []byte{0xff, 0x80, 0x81, 0xc0, 0x0f, 3, 4, 5, 6, 7}
	kept := bytes.Clone(b)
	for _, r := range readers() {
		r.read(b, 0, len(b))
	}
	leb.F32(b, 0, len(b))
	leb.F64(b, 0, len(b))
	if !bytes.Equal(b, kept) {
		t.Errorf("the bytes are %x now", b)
	}
}
