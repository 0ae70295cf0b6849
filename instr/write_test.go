package instr_test

import (
	"bytes"
	"math"
	"testing"

	"ratchet/api"
	"ratchet/instr"
	"ratchet/leb"
)

func TestIS3Examples(t *testing.T) {
	writes(t, api.Instr{Op: named("br_table"), Labels: []uint32{0, 1}, X: 2}, bin("0e 02 00 01 02"))
	writes(t, withN("i32.const", math.MaxUint32), bin("41 7f"))
	writes(t, withMem("i32.load", 2, 0, 4), bin("28 02 04"))
	writes(t, withTypes("br_on_cast", refNull(api.HAny), refNull(api.HStruct)), bin("fb 18 03 00 6e 6b"))
}

// An opcode alone, with whatever stands in the fields that it has not.
func TestIS3Opcodes(t *testing.T) {
	for _, op := range ofForm("-") {
		writes(t, api.Instr{Op: op}, opBytes(op))
		writes(t, filled(api.Instr{Op: op}), opBytes(op))
	}
	rows := byOp()
	for _, op := range anyOps() {
		if _, is := rows[op]; !is {
			writesNot(t, api.Instr{Op: op}, api.ErrArg)
		}
	}
	for _, op := range []int{-1, 0x06, 0xfb, 0xfd, 0xfb1f, 0xfc12, 0xfd00, math.MinInt, math.MaxInt} {
		full := noise()
		full.Op = op
		writesNot(t, full, api.ErrArg)
	}
}

func TestIS3Indices(t *testing.T) {
	for _, x := range u32s()[:7] {
		for _, op := range ofForm("x") {
			writes(t, api.Instr{Op: op, X: x.n}, append(opBytes(op), bin(x.digits)...))
		}
		for _, y := range u32s()[:7] {
			for _, op := range ofForm("xy") {
				writes(t, api.Instr{Op: op, X: x.n, Y: y.n}, append(append(opBytes(op), bin(x.digits)...), bin(y.digits)...))
			}
			writes(t, api.Instr{Op: 0xfb08, X: x.n, N: uint64(y.n)}, append(append(bin("fb 08"), bin(x.digits)...), bin(y.digits)...))
			writes(t, api.Instr{Op: 0x0e, X: x.n, Labels: []uint32{y.n, 1}}, append(append(bin("0e 02"), bin(y.digits)...), append([]byte{1}, bin(x.digits)...)...))
		}
	}
	for _, n := range []uint64{1 << 32, 1<<32 + 1, 1 << 40, 1 << 63, math.MaxUint64} {
		writesNot(t, withN("array.new_fixed", n), api.ErrArg)
	}
	writes(t, of("br_table"), bin("0e 00 00"))
	writes(t, api.Instr{Op: 0x0e, Labels: []uint32{}, X: 5}, bin("0e 00 05"))
}

func TestIS3Constants(t *testing.T) {
	for _, c := range []struct {
		name   string
		n      uint64
		digits string
	}{
		{"i32.const", 0, "41 00"}, {"i32.const", 63, "41 3f"}, {"i32.const", 64, "41 c0 00"}, {"i32.const", 1<<32 - 64, "41 40"}, {"i32.const", 1<<32 - 65, "41 bf 7f"},
		{"i32.const", math.MaxInt32, "41 ff ff ff ff 07"}, {"i32.const", 1 << 31, "41 80 80 80 80 78"}, {"i32.const", math.MaxUint32, "41 7f"},
		{"i64.const", 0, "42 00"}, {"i64.const", math.MaxUint64, "42 7f"}, {"i64.const", math.MaxUint32, "42 ff ff ff ff 0f"}, {"i64.const", 1 << 31, "42 80 80 80 80 08"},
		{"i64.const", math.MaxInt64, "42 ff ff ff ff ff ff ff ff ff 00"}, {"i64.const", 1 << 63, "42 80 80 80 80 80 80 80 80 80 7f"},
		{"f32.const", 0, "43 00 00 00 00"}, {"f32.const", 0x84030201, "43 01 02 03 84"}, {"f32.const", math.MaxUint32, "43 ff ff ff ff"}, {"f32.const", 0x7f800001, "43 01 00 80 7f"}, {"f32.const", 0xffc00000, "43 00 00 c0 ff"},
		{"f64.const", 0, "44 00 00 00 00 00 00 00 00"}, {"f64.const", 0x8807060504030201, "44 01 02 03 04 05 06 07 88"}, {"f64.const", math.MaxUint64, "44 ff ff ff ff ff ff ff ff"}, {"f64.const", 0x7ff0000000000001, "44 01 00 00 00 00 00 f0 7f"},
	} {
		writes(t, withN(c.name, c.n), bin(c.digits))
	}
	for _, n := range []uint64{1 << 32, 1<<32 + 5, 1<<33 - 1, 1 << 63, math.MaxUint64, math.MaxUint64 - math.MaxInt32} {
		writesNot(t, withN("i32.const", n), api.ErrArg)
		writesNot(t, withN("f32.const", n), api.ErrArg)
		if _, e := instr.Write(withN("i64.const", n)); e != api.OK {
			t.Errorf("Write(i64.const %d): %d", n, e)
		}
		if _, e := instr.Write(withN("f64.const", n)); e != api.OK {
			t.Errorf("Write(f64.const %d): %d", n, e)
		}
	}
}

func TestIS3Memories(t *testing.T) {
	for _, op := range ofForm("mem") {
		for align := range uint32(0x40) {
			writes(t, api.Instr{Op: op, Mem: api.MemArg{Align: align}}, []byte{byte(op), byte(align), 0})
			writes(t, api.Instr{Op: op, Mem: api.MemArg{Align: align, Mem: 300, Offset: 1}}, []byte{byte(op), byte(align) | 0x40, 0xac, 2, 1})
		}
		for _, align := range []uint32{0x40, 0x41, 0x7f, 0x80, 0xc0, 1 << 16, 1 << 31, math.MaxUint32} {
			writesNot(t, api.Instr{Op: op, Mem: api.MemArg{Align: align}}, api.ErrArg)
			writesNot(t, api.Instr{Op: op, Mem: api.MemArg{Align: align, Mem: 1, Offset: 1}}, api.ErrArg)
		}
	}
	writes(t, withMem("i64.store", 3, math.MaxUint32, math.MaxUint64), bin("37 43 ff ff ff ff 0f ff ff ff ff ff ff ff ff ff 01"))
	writes(t, withMem("i64.store", 0, 1, 1<<32), bin("37 40 01 80 80 80 80 10"))
}

func TestIS3Blocks(t *testing.T) {
	for _, c := range blocks() {
		digits := c.digits
		switch digits {
		case "63 70":
			digits = "70"
		case "80 80 00":
			digits = "00"
		}
		for _, op := range ofForm("block") {
			writes(t, api.Instr{Op: op, Block: c.b}, append(opBytes(op), bin(digits)...))
		}
		writes(t, withBlock("try_table", c.b), append(append(bin("1f"), bin(digits)...), 0))
	}
	for _, b := range noBlockTypes() {
		for _, op := range append(ofForm("block"), 0x1f) {
			writesNot(t, api.Instr{Op: op, Block: b}, api.ErrArg)
		}
	}
}

// noBlockTypes are block types that entry can't write.
func noBlockTypes() []api.Block {
	l := []api.Block{
		{Type: -2}, {Type: math.MinInt}, {Type: 1 << 31}, {Type: math.MaxInt}, {Type: 0, Result: num(api.TI32)}, {Type: 5, Result: ref(0)}, {Type: -2, Result: num(api.TI32)},
	}
	for _, v := range noValueTypes() {
		if v != (api.ValType{}) {
			l = append(l, result(v))
		}
	}
	return l
}

// noValueTypes are value types that entry can't write.
func noValueTypes() []api.ValType {
	return []api.ValType{
		{}, num(api.T8), num(api.T16), num(8), num(-1), num(math.MaxInt), num(math.MinInt), num(256 + api.TI32),
		{Num: api.TI32, Null: true}, {Num: api.TF64, Heap: 1}, {Num: api.TI64, Heap: api.HAny}, {Null: true}, {Heap: api.HAny},
		ref(-13), refNull(-13), ref(-100), ref(1 << 31), refNull(math.MaxInt), ref(math.MinInt),
	}
}

func TestIS3Clauses(t *testing.T) {
	writes(t, withBlock("try_table", bare(), api.Catch{Kind: 0, Tag: 1, Label: 2}, api.Catch{Kind: 1, Tag: 131, Label: 4}, api.Catch{Kind: 2, Label: 5}, api.Catch{Kind: 3, Label: 300}),
		bin("1f 40 04 00 01 02 01 83 01 04 02 05 03 ac 02"))
	for _, kind := range []int{4, 5, 255, 256, 257, -1, -2, math.MaxInt, math.MinInt} {
		writesNot(t, withBlock("try_table", bare(), api.Catch{Kind: kind}), api.ErrArg)
		writesNot(t, withBlock("try_table", bare(), api.Catch{Kind: 0}, api.Catch{Kind: kind, Label: 1}), api.ErrArg)
	}
	for _, tag := range []uint32{1, 128, math.MaxUint32} {
		for _, kind := range []int{2, 3} {
			writesNot(t, withBlock("try_table", bare(), api.Catch{Kind: kind, Tag: tag}), api.ErrArg)
			writesNot(t, withBlock("try_table", bare(), api.Catch{Kind: 1, Tag: tag}, api.Catch{Kind: kind, Tag: tag, Label: 3}), api.ErrArg)
		}
	}
	writesNot(t, withBlock("try_table", api.Block{Type: -2}, api.Catch{Kind: 0}), api.ErrArg)
}

func TestIS3TypesOfASelect(t *testing.T) {
	writes(t, of("select_t"), bin("1c 00"))
	writes(t, withTypes("select_t", []api.ValType{}...), bin("1c 00"))
	writes(t, withTypes("select_t", num(api.TI32), num(api.TI64), num(api.TF32), num(api.TF64), ref(2), refNull(64), refNull(api.HAny), ref(api.HAny)), bin("1c 08 7f 7e 7d 7c 64 02 63 c0 00 6e 64 6e"))
	for _, v := range noValueTypes() {
		writesNot(t, withTypes("select_t", v), api.ErrArg)
		writesNot(t, withTypes("select_t", num(api.TI32), v), api.ErrArg)
		writesNot(t, withTypes("select_t", v, num(api.TI32)), api.ErrArg)
	}
}

// shortHeaps are heap types with their shortest bytes.
func shortHeaps() map[string]int {
	l := heaps()
	delete(l, "85 80 80 80 00")
	return l
}

func TestIS3References(t *testing.T) {
	casts := map[string]bool{"ref.null": true, "ref.test": false, "ref.test_null": true, "ref.cast": false, "ref.cast_null": true}
	for name, null := range casts {
		for digits, h := range shortHeaps() {
			v := api.ValType{Num: api.TRef, Null: null, Heap: h}
			writes(t, withTypes(name, v), append(opBytes(named(name)), bin(digits)...))
			other := api.ValType{Num: api.TRef, Null: !null, Heap: h}
			writesNot(t, withTypes(name, other), api.ErrArg)
			writesNot(t, withTypes(name, v, v), api.ErrArg)
			writesNot(t, withTypes(name, v, other), api.ErrArg)
			writesNot(t, withTypes(name, v, v, v), api.ErrArg)
		}
		writesNot(t, of(name), api.ErrArg)
		for _, v := range append(noValueTypes(), num(api.TI32), num(api.TI64), num(api.TF32), num(api.TF64)) {
			writesNot(t, withTypes(name, v), api.ErrArg)
			v.Null = null
			writesNot(t, withTypes(name, v), api.ErrArg)
		}
	}
}

func TestIS3Branches(t *testing.T) {
	for _, name := range []string{"br_on_cast", "br_on_cast_fail"} {
		op := opBytes(named(name))
		for flags := range byte(4) {
			for digits, h := range shortHeaps() {
				first, second := api.ValType{Num: api.TRef, Null: flags&1 != 0, Heap: h}, api.ValType{Num: api.TRef, Null: flags&2 != 0, Heap: 64}
				want := append(append(append(bytes.Clone(op), flags, 0x85, 1), bin(digits)...), 0xc0, 0)
				writes(t, api.Instr{Op: named(name), X: 133, Types: []api.ValType{first, second}}, want)
				writesNot(t, withTypes(name, first), api.ErrArg)
				writesNot(t, withTypes(name, first, second, first), api.ErrArg)
			}
		}
		writesNot(t, of(name), api.ErrArg)
		writesNot(t, withTypes(name, many(refNull(0), 300)...), api.ErrArg)
		for _, v := range append(noValueTypes(), num(api.TI32), num(api.TF64)) {
			writesNot(t, withTypes(name, v, ref(0)), api.ErrArg)
			writesNot(t, withTypes(name, ref(0), v), api.ErrArg)
			writesNot(t, withTypes(name, v, v), api.ErrArg)
		}
	}
}

func TestIS3Limits(t *testing.T) {
	writes(t, api.Instr{Op: 0x0e, Labels: make([]uint32, api.MaxLabels), X: 9}, append(append(append(bin("0e"), leb.PutU(api.MaxLabels)...), make([]byte, api.MaxLabels)...), 9))
	writes(t, withBlock("try_table", bare(), many(api.Catch{Kind: 3, Label: 7}, api.MaxLabels)...), append(append(bin("1f 40"), leb.PutU(api.MaxLabels)...), bytes.Repeat([]byte{3, 7}, api.MaxLabels)...))
	writes(t, withTypes("select_t", many(num(api.TI32), api.MaxParams)...), append(append(bin("1c"), leb.PutU(api.MaxParams)...), bytes.Repeat([]byte{0x7f}, api.MaxParams)...))

	for _, more := range []int{1, 2, 1000} {
		writesNot(t, api.Instr{Op: 0x0e, Labels: make([]uint32, api.MaxLabels+more)}, api.ErrLong)
		writesNot(t, withBlock("try_table", bare(), many(api.Catch{Kind: 2}, api.MaxLabels+more)...), api.ErrLong)
		writesNot(t, withTypes("select_t", many(ref(0), api.MaxParams+more)...), api.ErrLong)
		// What can't be written at all comes ahead.
		writesNot(t, withBlock("try_table", api.Block{Type: -2}, many(api.Catch{Kind: 2}, api.MaxLabels+more)...), api.ErrArg)
		writesNot(t, withBlock("try_table", bare(), many(api.Catch{Kind: 4}, api.MaxLabels+more)...), api.ErrArg)
		writesNot(t, withTypes("select_t", many(num(api.T8), api.MaxParams+more)...), api.ErrArg)
	}
	// Of what the form doesn't have nothing is asked, be it as long as it may.
	i := withX("call", 1)
	i.Labels, i.Types, i.Catches = make([]uint32, api.MaxLabels+1), make([]api.ValType, api.MaxParams+1), make([]api.Catch, api.MaxLabels+1)
	writes(t, i, bin("10 01"))
}

func TestIS3BodiesAreNotWritten(t *testing.T) {
	i := withBlock("if", result(num(api.TI32)))
	i.Body, i.Else, i.HasElse = []api.Instr{of("nop"), {Op: -1}}, []api.Instr{of("end")}, true
	writes(t, i, bin("04 7f"))
	i.Op = named("try_table")
	writes(t, i, bin("1f 7f 00"))
}

func TestIS3NewMemory(t *testing.T) {
	i := withTypes("select_t", num(api.TI32))
	first, _ := instr.Write(i)
	clear(first)
	writes(t, i, bin("1c 01 7f"))
}
