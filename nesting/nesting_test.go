package nesting_test

import (
	"math"
	"testing"

	"ratchet/api"
	"ratchet/instr"
	"ratchet/nesting"
)

// Those with a block's head have others in them.
func TestHas(t *testing.T) {
	for _, op := range append(instr.Ops(), -1, 0x06, 0x07, 0x18, 0x19, 0x102, 0xfb02, 0xfd00, math.MinInt, math.MaxInt) {
		form := instr.Form(op)
		if want := form == "block" || form == "try"; nesting.Has(op) != want {
			t.Errorf("Has(%x): %v", op, !want)
		}
	}
}

func TestFits(t *testing.T) {
	some := []api.Instr{{Op: 1}}
	for _, op := range append(instr.Ops(), -1, 0x06, 0x7777) {
		for n := range 8 {
			i := api.Instr{Op: op, HasElse: n&4 != 0}
			if n&1 != 0 {
				i.Body = some
			}
			if n&2 != 0 {
				i.Else = some
			}
			want := n == 0
			switch op {
			case 0x02, 0x03, 0x1f:
				want = n&6 == 0
			case 0x04:
				want = n&6 != 2
			}
			if nesting.Fits(i) != want {
				t.Errorf("Fits(%x, body %v, else %v, told %v): %v", op, n&1 != 0, n&2 != 0, n&4 != 0, !want)
			}
		}
		if !nesting.Fits(api.Instr{Op: op, Body: []api.Instr{}, Else: []api.Instr{}}) {
			t.Errorf("Fits(%x) of empty parts: false", op)
		}
	}
}
