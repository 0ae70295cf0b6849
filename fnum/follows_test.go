package fnum_test

import (
	"testing"

	"ratchet/api"
	"ratchet/fnum"
)

// one is the answer of an operator of one float.
func one(t *testing.T, op int, a uint64) uint64 {
	n, e := fnum.Unary(op, a)
	if e != api.OK {
		t.Helper()
		t.Errorf("Unary(%x, %x): %d", op, a, e)
	}
	return n
}

// two is the answer of an operator of two floats.
func two(t *testing.T, op int, a, b uint64) uint64 {
	n, e := fnum.Binary(op, a, b)
	if e != api.OK {
		t.Helper()
		t.Errorf("Binary(%x, %x, %x): %d", op, a, b, e)
	}
	return n
}

// converted is the answer of a conversion that does not trap.
func converted(t *testing.T, op int, a uint64) uint64 {
	n, e := fnum.Convert(op, a)
	if e != api.OK {
		t.Helper()
		t.Errorf("Convert(%x, %x): %d", op, a, e)
	}
	return n
}

// onlyNaN complains of a NaN that is not the canonical one, and of high bits.
func (f form) onlyNaN(t *testing.T, op int, n uint64) {
	if n > f.mask() || f.isNaN(n) && n != f.canon() {
		t.Helper()
		t.Errorf("%x answers %x", op, n)
	}
}

func TestP46OneNaN(t *testing.T) {
	for _, r := range unaries() {
		if r.word == "abs" || r.word == "neg" {
			continue
		}
		for _, a := range r.form.many() {
			r.form.onlyNaN(t, r.op, one(t, r.op, a))
		}
	}
	for _, r := range binaries() {
		if r.word != "copysign" {
			r.form.pairs(func(a, b uint64) { r.form.onlyNaN(t, r.op, two(t, r.op, a, b)) })
		}
	}
	for _, a := range wide.many() {
		narrow.onlyNaN(t, 0xb6, converted(t, 0xb6, a))
		wide.onlyNaN(t, 0xbb, converted(t, 0xbb, a))
		for _, c := range fromWholes() {
			c.to.onlyNaN(t, c.op, converted(t, c.op, a))
		}
	}
}

func TestP46Sums(t *testing.T) {
	for _, f := range []form{narrow, wide} {
		add, sub, mul, neg := opOf(binaries(), "add", f), opOf(binaries(), "sub", f), opOf(binaries(), "mul", f), opOf(unaries(), "neg", f)
		f.pairs(func(a, b uint64) {
			for _, op := range []int{add, mul} {
				if n, m := two(t, op, a, b), two(t, op, b, a); n != m {
					t.Errorf("%x of %x and %x: %x, in the other order %x", op, a, b, n, m)
				}
			}
			if n, m := two(t, sub, a, b), two(t, add, a, one(t, neg, b)); n != m {
				t.Errorf("sub of %x and %x: %x, add of the negative %x", a, b, n, m)
			}
		})
	}
}

func TestP46Roots(t *testing.T) {
	for _, f := range []form{narrow, wide} {
		sqrt, mul := opOf(unaries(), "sqrt", f), opOf(binaries(), "mul", f)
		for _, a := range f.many() {
			a &= f.mask()
			// Below the least float of full precision a square loses bits; there the root is looked at by itself.
			if f.isNegative(a) || a >= f.infinite() || a <= f.low() {
				continue
			}
			root := one(t, sqrt, a)
			square := two(t, mul, root, root)
			if off := int64(square - a); off < -2 || off > 2 {
				t.Errorf("the root of %x is %x, its square %x", a, root, square)
			}
		}
	}
}

func TestP46PromoteAndDemote(t *testing.T) {
	for _, a := range narrow.many() {
		a &= narrow.mask()
		want := a
		if narrow.isNaN(a) {
			want = narrow.canon()
		}
		if n := converted(t, 0xb6, converted(t, 0xbb, a)); n != want {
			t.Errorf("%x, promoted and demoted: %x, not %x", a, n, want)
		}
	}
}

func TestP46WholeNumbersAndBack(t *testing.T) {
	for _, c := range fromWholes() {
		for _, back := range toWholes() {
			if back.from != c.to || back.width != c.width || back.signed != c.signed {
				continue
			}
			for _, a := range wholes() {
				a &= formOf(c.width).mask()
				if !c.fits(a) {
					continue
				}
				n := converted(t, c.op, a)
				for _, op := range []int{back.op, back.saturating} {
					if m := converted(t, op, n); m != a {
						t.Errorf("%x of %x: %x, and back by %x: %x", c.op, a, n, op, m)
					}
				}
			}
		}
	}
}

// fits tells whether a float holds the whole number exactly.
func (c fromWhole) fits(a uint64) bool {
	size := a
	if c.signed && a>>(c.width-1) == 1 {
		size = -a & formOf(c.width).mask()
	}
	for size != 0 && size&1 == 0 {
		size >>= 1
	}
	return size>>(c.to.fraction+1) == 0
}
