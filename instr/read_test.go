package instr_test

import (
	"bytes"
	"math"
	"slices"
	"testing"

	"ratchet/api"
	"ratchet/instr"
	"ratchet/leb"
)

func TestIS2Examples(t *testing.T) {
	reads(t, bin("41 7f"), withN("i32.const", math.MaxUint32))
	reads(t, bin("28 02 04"), withMem("i32.load", 2, 0, 4))
	gives(t, bin("fd 00"), 0, api.ErrSimd)
	gives(t, bin("06"), 0, api.ErrForm)
	reads(t, bin("fb 18 03 00 6e 6b"), withTypes("br_on_cast", refNull(api.HAny), refNull(api.HStruct)))
}

func TestIS2Places(t *testing.T) {
	b := bin("41 05 01 0b")
	for _, at := range []int{-1, -2, math.MinInt, math.MinInt32, len(b) + 1, len(b) + 2, math.MaxInt, math.MaxInt32} {
		refuses(t, b, at, 0, api.ErrArg)
		refuses(t, nil, at, 0, api.ErrArg)
	}
	refuses(t, b, len(b), len(b), api.ErrShort)
	refuses(t, nil, 0, 0, api.ErrShort)
	refuses(t, []byte{}, 0, 0, api.ErrShort)
	refuses(t, nil, 1, 0, api.ErrArg)
	shows(t, b, 0, withN("i32.const", 5), 2)
	shows(t, b, 1, of("else"), 2)
	shows(t, b, 2, of("nop"), 3)
	shows(t, b, 3, of("end"), 4)
}

// What stands behind the bytes' end, though there is memory, is not looked at.
func TestIS2TheEndIsTheEnd(t *testing.T) {
	b := bin("10 85 01")
	refuses(t, b[:1], 0, 1, api.ErrShort)
	refuses(t, b[:2], 0, 2, api.ErrShort)
	shows(t, b, 0, withX("call", 133), 3)
}

func TestIS2EachFirstByte(t *testing.T) {
	rows := byOp()
	for c := range 256 {
		_, is := rows[c]
		switch {
		case c == 0xfd:
			gives(t, []byte{0xfd}, 0, api.ErrSimd)
			for n := range 256 {
				gives(t, []byte{0xfd, byte(n)}, 0, api.ErrSimd)
			}
		case c == 0xfb || c == 0xfc:
			gives(t, []byte{byte(c)}, 1, api.ErrShort)
			gives(t, []byte{byte(c), 0x80}, 2, api.ErrShort)
		case !is:
			gives(t, []byte{byte(c)}, 0, api.ErrForm)
			gives(t, []byte{byte(c), 0}, 0, api.ErrForm)
		case rows[c].form == "-":
			reads(t, []byte{byte(c)}, api.Instr{Op: c})
		default:
			gives(t, []byte{byte(c)}, 1, api.ErrShort)
		}
	}
}

// behindPrefix are numbers that may stand behind a prefix: small ones, those that would run into the next prefix, and great ones.
func behindPrefix() []uint64 {
	var out []uint64
	for n := range uint64(0x500) {
		out = append(out, n)
	}
	for _, n := range []uint64{0xfb00, 0xfb1e, 0xfc00, 0xfc11, 1 << 16, 1<<16 + 1, 1 << 24, 1<<31 - 1, 1 << 31, 1<<32 - 1, 1<<32 - 0x100, 1<<32 - 0xfb00} {
		out = append(out, n, n+1, n-1)
	}
	return slices.DeleteFunc(out, func(n uint64) bool { return n > math.MaxUint32 })
}

func TestIS2EachNumberBehindAPrefix(t *testing.T) {
	rows := byOp()
	for _, prefix := range []int{0xfb, 0xfc} {
		for _, n := range behindPrefix() {
			r, is := rows[prefix<<8+int(n)]
			is = is && n < 256
			for size := len(leb.PutU(n)); size <= 5; size++ {
				b := append([]byte{byte(prefix)}, longer(leb.PutU(n), size)...)
				switch {
				case !is:
					gives(t, b, 0, api.ErrForm)
				case r.form == "-":
					reads(t, b, api.Instr{Op: r.op})
				default:
					gives(t, b, len(b), api.ErrShort)
				}
			}
		}
		p := []byte{byte(prefix)}
		gives(t, append(p, bin("80 80 80 80 10")...), 5, api.ErrForm)
		gives(t, append(p, bin("80 80 80 80 80")...), 5, api.ErrForm)
		gives(t, append(p, bin("80 80 80 80 80 00")...), 5, api.ErrForm)
		gives(t, append(p, bin("ff ff ff ff ff")...), 5, api.ErrForm)
		gives(t, append(p, bin("80 80 80 80")...), 5, api.ErrShort)
	}
}

// longer is a number's shortest bytes, filled up to so many by noughts that count for nothing.
func longer(b []byte, size int) []byte {
	out := bytes.Clone(b)
	for len(out) < size {
		out[len(out)-1] |= 0x80
		out = append(out, 0)
	}
	return out
}

// u32s are numbers of 32 bits, with bytes of theirs.
func u32s() []struct {
	n      uint32
	digits string
} {
	return []struct {
		n      uint32
		digits string
	}{
		{0, "00"}, {1, "01"}, {127, "7f"}, {128, "80 01"}, {16383, "ff 7f"}, {1 << 31, "80 80 80 80 08"}, {math.MaxUint32, "ff ff ff ff 0f"},
		{0, "80 00"}, {5, "85 80 80 80 00"},
	}
}

// noU32s are bytes that are no u32, with the place of the fault.
func noU32s() []struct {
	digits string
	at     int
	e      api.Errno
} {
	return []struct {
		digits string
		at     int
		e      api.Errno
	}{
		{"", 0, api.ErrShort}, {"80", 1, api.ErrShort}, {"ff ff ff ff", 4, api.ErrShort},
		{"80 80 80 80 10", 4, api.ErrForm}, {"ff ff ff ff 1f", 4, api.ErrForm}, {"80 80 80 80 80", 4, api.ErrForm}, {"ff ff ff ff ff ff", 4, api.ErrForm},
	}
}

func TestIS2Indices(t *testing.T) {
	for _, op := range ofForm("x") {
		for _, x := range u32s() {
			reads(t, append(opBytes(op), bin(x.digits)...), api.Instr{Op: op, X: x.n})
		}
		for _, w := range noU32s() {
			b := opBytes(op)
			gives(t, append(b, bin(w.digits)...), len(b)+w.at, w.e)
		}
	}
}

func TestIS2TwoIndices(t *testing.T) {
	for _, form := range []string{"xy", "xn"} {
		for _, op := range ofForm(form) {
			for _, x := range u32s() {
				head := append(opBytes(op), bin(x.digits)...)
				for _, y := range u32s() {
					want := api.Instr{Op: op, X: x.n, Y: y.n}
					if form == "xn" {
						want = api.Instr{Op: op, X: x.n, N: uint64(y.n)}
					}
					reads(t, append(bytes.Clone(head), bin(y.digits)...), want)
				}
				for _, w := range noU32s() {
					gives(t, append(bytes.Clone(head), bin(w.digits)...), len(head)+w.at, w.e)
				}
			}
			for _, w := range noU32s() {
				b := opBytes(op)
				gives(t, append(b, bin(w.digits)...), len(b)+w.at, w.e)
			}
		}
	}
}

// blocks are block types with their bytes.
func blocks() []struct {
	digits string
	b      api.Block
} {
	return []struct {
		digits string
		b      api.Block
	}{
		{"40", bare()}, {"7f", result(num(api.TI32))}, {"7e", result(num(api.TI64))}, {"7d", result(num(api.TF32))}, {"7c", result(num(api.TF64))},
		{"70", result(refNull(api.HFunc))}, {"63 70", result(refNull(api.HFunc))}, {"64 6e", result(ref(api.HAny))}, {"63 05", result(refNull(5))},
		{"00", api.Block{}}, {"05", api.Block{Type: 5}}, {"c0 00", api.Block{Type: 64}}, {"80 80 00", api.Block{}}, {"ff ff ff ff 07", api.Block{Type: math.MaxInt32}},
	}
}

// noBlocks are bytes that are no block type.
func noBlocks() []struct {
	digits string
	at     int
	e      api.Errno
} {
	return []struct {
		digits string
		at     int
		e      api.Errno
	}{
		{"", 0, api.ErrShort}, {"80", 1, api.ErrShort}, {"63", 1, api.ErrShort}, {"64 80", 2, api.ErrShort},
		{"7b", 0, api.ErrSimd}, {"78", 0, api.ErrForm}, {"77", 0, api.ErrForm}, {"41", 0, api.ErrForm}, {"64 7f", 1, api.ErrForm},
		{"ff 7f", 0, api.ErrForm}, {"80 80 80 80 08", 0, api.ErrLong}, {"80 80 80 80 50", 4, api.ErrForm},
	}
}

func TestIS2Blocks(t *testing.T) {
	for _, op := range ofForm("block") {
		for _, c := range blocks() {
			reads(t, append(opBytes(op), bin(c.digits)...), api.Instr{Op: op, Block: c.b})
		}
		for _, w := range noBlocks() {
			gives(t, append(opBytes(op), bin(w.digits)...), 1+w.at, w.e)
		}
	}
	// What stands behind the head, a body too, is not looked at.
	shows(t, bin("02 40 06"), 0, withBlock("block", bare()), 2)
	shows(t, bin("04 40 fd"), 0, withBlock("if", bare()), 2)
}

func TestIS2Clauses(t *testing.T) {
	for _, c := range blocks() {
		head := append(bin("1f"), bin(c.digits)...)
		reads(t, append(bytes.Clone(head), 0), withBlock("try_table", c.b))
		reads(t, append(bytes.Clone(head), bin("04 00 01 02 01 83 01 04 02 05 03 86 00")...), withBlock("try_table", c.b,
			api.Catch{Kind: 0, Tag: 1, Label: 2}, api.Catch{Kind: 1, Tag: 131, Label: 4}, api.Catch{Kind: 2, Label: 5}, api.Catch{Kind: 3, Label: 6}))
	}
	for _, w := range noBlocks() {
		gives(t, append(bin("1f"), bin(w.digits)...), 1+w.at, w.e)
	}
	for _, w := range noU32s() {
		for _, head := range []string{"1f 40", "1f 40 01 00", "1f 40 01 00 01", "1f 40 01 01", "1f 40 01 01 01", "1f 40 01 02", "1f 40 01 03", "1f 40 02 02 00 03"} {
			gives(t, append(bin(head), bin(w.digits)...), len(bin(head))+w.at, w.e)
		}
	}
	for kind := 4; kind < 256; kind++ {
		gives(t, append(bin("1f 40 01"), byte(kind), 0, 0), 3, api.ErrForm)
		gives(t, append(bin("1f 40 02 03 00"), byte(kind), 0, 0), 5, api.ErrForm)
	}
	gives(t, bin("1f 40 01"), 3, api.ErrShort)
	for _, x := range u32s() {
		reads(t, append(bin("1f 40 01 02"), bin(x.digits)...), withBlock("try_table", bare(), api.Catch{Kind: 2, Label: x.n}))
		reads(t, append(bin("1f 40 01 00 07"), bin(x.digits)...), withBlock("try_table", bare(), api.Catch{Kind: 0, Tag: 7, Label: x.n}))
		reads(t, append(append(bin("1f 40 01 01"), bin(x.digits)...), 7), withBlock("try_table", bare(), api.Catch{Kind: 1, Tag: x.n, Label: 7}))
	}
}

func TestIS2Labels(t *testing.T) {
	reads(t, bin("0e 00 00"), of("br_table"))
	reads(t, bin("0e 80 00 05"), withX("br_table", 5))
	reads(t, bin("0e 02 00 01 02"), api.Instr{Op: 0x0e, Labels: []uint32{0, 1}, X: 2})
	for _, x := range u32s() {
		reads(t, append(bin("0e 00"), bin(x.digits)...), withX("br_table", x.n))
		reads(t, append(append(bin("0e 02 03"), bin(x.digits)...), 4), api.Instr{Op: 0x0e, Labels: []uint32{3, x.n}, X: 4})
	}
	for _, w := range noU32s() {
		for _, head := range []string{"0e", "0e 00", "0e 01", "0e 01 00", "0e 02 00", "0e 02 00 00"} {
			gives(t, append(bin(head), bin(w.digits)...), len(bin(head))+w.at, w.e)
		}
	}
}

func TestIS2TypesOfASelect(t *testing.T) {
	reads(t, bin("1c 00"), of("select_t"))
	reads(t, bin("1c 80 80 80 80 00"), of("select_t"))
	reads(t, bin("1c 01 7f"), withTypes("select_t", num(api.TI32)))
	reads(t, bin("1c 05 7f 7e 7d 7c 64 02"), withTypes("select_t", num(api.TI32), num(api.TI64), num(api.TF32), num(api.TF64), ref(2)))
	for code, h := range heapCodes() {
		reads(t, []byte{0x1c, 2, code, 0x63, code}, withTypes("select_t", refNull(h), refNull(h)))
		reads(t, []byte{0x1c, 1, 0x64, code}, withTypes("select_t", ref(h)))
	}
	for _, w := range noU32s() {
		gives(t, append(bin("1c"), bin(w.digits)...), 1+w.at, w.e)
	}
	gives(t, bin("1c 01"), 2, api.ErrShort)
	gives(t, bin("1c 02 7f"), 3, api.ErrShort)
	gives(t, bin("1c 01 7b"), 2, api.ErrSimd)
	gives(t, bin("1c 02 7f 7b"), 3, api.ErrSimd)
	for _, code := range []byte{0, 0x40, 0x77, 0x78, 0x79, 0x7a, 0x60, 0x80, 0xff} {
		gives(t, []byte{0x1c, 1, code}, 2, api.ErrForm)
	}
	gives(t, bin("1c 01 64 80 80 80 80 08"), 3, api.ErrLong)
}

func TestIS2Memories(t *testing.T) {
	for _, op := range ofForm("mem") {
		for align := range uint32(0x40) {
			shows(t, []byte{byte(op), byte(align), 5}, 0, api.Instr{Op: op, Mem: api.MemArg{Align: align, Offset: 5}}, 3)
			shows(t, []byte{byte(op), byte(align) | 0x40, 7, 5}, 0, api.Instr{Op: op, Mem: api.MemArg{Align: align, Mem: 7, Offset: 5}}, 4)
			shows(t, []byte{byte(op), byte(align) | 0x40, 0, 5}, 0, api.Instr{Op: op, Mem: api.MemArg{Align: align, Offset: 5}}, 4)
		}
		for _, n := range []uint64{0x80, 0x81, 0xbf, 0xc0, 0xff, 0x100, 0x140, 1 << 16, 1 << 31, math.MaxUint32} {
			for size := len(leb.PutU(n)); size <= 5; size++ {
				gives(t, append(append([]byte{byte(op)}, longer(leb.PutU(n), size)...), 0, 0), 1, api.ErrForm)
			}
		}
	}
	reads(t, bin("28 3f 00"), withMem("i32.load", 0x3f, 0, 0))
	reads(t, bin("28 40 00 00"), withMem("i32.load", 0, 0, 0))
	reads(t, bin("28 7f 01 00"), withMem("i32.load", 0x3f, 1, 0))
	gives(t, bin("28 80 01 00"), 1, api.ErrForm)
	reads(t, bin("28 bf 80 00 00"), withMem("i32.load", 0x3f, 0, 0))
	reads(t, bin("28 c2 80 80 80 00 09 00"), withMem("i32.load", 2, 9, 0))
	for _, x := range u32s() {
		reads(t, append(append(bin("28 42"), bin(x.digits)...), 1), withMem("i32.load", 2, x.n, 1))
	}
	for _, w := range noU32s() {
		gives(t, append(bin("28"), bin(w.digits)...), 1+w.at, w.e)
		gives(t, append(bin("28 42"), bin(w.digits)...), 2+w.at, w.e)
	}
	gives(t, bin("28 80"), 2, api.ErrShort)
	gives(t, bin("28 80 01"), 1, api.ErrForm)
}

func TestIS2Offsets(t *testing.T) {
	for _, head := range []string{"28 02", "28 42 00", "3e 42 07"} {
		for _, c := range []struct {
			digits string
			n      uint64
		}{
			{"00", 0}, {"ff ff ff ff 0f", math.MaxUint32}, {"80 80 80 80 10", 1 << 32}, {"ff ff ff ff ff ff ff ff ff 01", math.MaxUint64},
			{"80 80 80 80 80 80 80 80 80 01", 1 << 63}, {"85 80 80 80 80 80 80 80 80 00", 5},
		} {
			b := append(bin(head), bin(c.digits)...)
			i, next, e := instr.Read(b, 0)
			if i.Mem.Offset != c.n || next != len(b) || e != api.OK {
				t.Errorf("Read(%x): %s, %d, %d", b, told(i), next, e)
			}
		}
		n := len(bin(head))
		gives(t, bin(head), n, api.ErrShort)
		gives(t, append(bin(head), bin("ff ff ff ff ff ff ff ff ff")...), n+9, api.ErrShort)
		gives(t, append(bin(head), bin("ff ff ff ff ff ff ff ff ff 02")...), n+9, api.ErrForm)
		gives(t, append(bin(head), bin("80 80 80 80 80 80 80 80 80 80 00")...), n+9, api.ErrForm)
	}
}

func TestIS2Constants(t *testing.T) {
	for _, c := range []struct {
		digits string
		name   string
		n      uint64
	}{
		{"41 00", "i32.const", 0}, {"41 3f", "i32.const", 63}, {"41 40", "i32.const", 1<<32 - 64}, {"41 c0 00", "i32.const", 64},
		{"41 ff ff ff ff 07", "i32.const", math.MaxInt32}, {"41 80 80 80 80 78", "i32.const", 1 << 31}, {"41 ff ff ff ff 7f", "i32.const", math.MaxUint32},
		{"42 00", "i64.const", 0}, {"42 7f", "i64.const", math.MaxUint64}, {"42 ff ff ff ff 07", "i64.const", math.MaxInt32}, {"42 80 80 80 80 78", "i64.const", math.MaxUint64 - math.MaxInt32},
		{"42 ff ff ff ff ff ff ff ff ff 00", "i64.const", math.MaxInt64}, {"42 80 80 80 80 80 80 80 80 80 7f", "i64.const", 1 << 63},
		{"43 00 00 00 00", "f32.const", 0}, {"43 01 02 03 84", "f32.const", 0x84030201}, {"43 ff ff ff ff", "f32.const", math.MaxUint32},
		{"43 00 00 80 7f", "f32.const", 0x7f800000}, {"43 01 00 80 7f", "f32.const", 0x7f800001}, {"43 00 00 c0 ff", "f32.const", 0xffc00000},
		{"44 01 02 03 04 05 06 07 88", "f64.const", 0x8807060504030201}, {"44 ff ff ff ff ff ff ff ff", "f64.const", math.MaxUint64},
		{"44 01 00 00 00 00 00 f0 7f", "f64.const", 0x7ff0000000000001}, {"44 00 00 00 00 00 00 f8 ff", "f64.const", 0xfff8000000000000},
	} {
		reads(t, bin(c.digits), withN(c.name, c.n))
	}
	for _, w := range []struct {
		digits string
		at     int
		e      api.Errno
	}{
		{"41", 1, api.ErrShort}, {"41 80", 2, api.ErrShort}, {"41 ff ff ff ff 0f", 5, api.ErrForm}, {"41 80 80 80 80 70", 5, api.ErrForm}, {"41 80 80 80 80 80", 5, api.ErrForm},
		{"42", 1, api.ErrShort}, {"42 ff ff ff ff ff ff ff ff ff", 10, api.ErrShort}, {"42 ff ff ff ff ff ff ff ff ff 01", 10, api.ErrForm}, {"42 80 80 80 80 80 80 80 80 80 7e", 10, api.ErrForm},
		{"43", 1, api.ErrShort}, {"43 00 00 00", 4, api.ErrShort}, {"44", 1, api.ErrShort}, {"44 00 00 00 00 00 00 00", 8, api.ErrShort},
	} {
		gives(t, bin(w.digits), w.at, w.e)
	}
}

// heaps are heap types with bytes of theirs.
func heaps() map[string]int {
	out := map[string]int{"00": 0, "05": 5, "3f": 63, "c0 00": 64, "f0 00": 0x70, "85 80 80 80 00": 5, "ff ff ff ff 07": math.MaxInt32}
	for code, h := range heapCodes() {
		out[digitsOf(code)] = h
	}
	return out
}

func digitsOf(c byte) string {
	const all = "0123456789abcdef"
	return string([]byte{all[c>>4], all[c&15]})
}

// noHeaps are bytes that are no heap type.
func noHeaps() []struct {
	digits string
	at     int
	e      api.Errno
} {
	return []struct {
		digits string
		at     int
		e      api.Errno
	}{
		{"", 0, api.ErrShort}, {"80", 1, api.ErrShort}, {"7f", 0, api.ErrForm}, {"7b", 0, api.ErrForm}, {"78", 0, api.ErrForm}, {"63", 0, api.ErrForm}, {"64", 0, api.ErrForm}, {"40", 0, api.ErrForm},
		{"68", 0, api.ErrForm}, {"75", 0, api.ErrForm}, {"f0 7f", 0, api.ErrForm}, {"80 80 80 80 08", 0, api.ErrLong}, {"80 80 80 80 50", 4, api.ErrForm},
	}
}

func TestIS2HeapTypes(t *testing.T) {
	for digits, h := range heaps() {
		reads(t, append(bin("d0"), bin(digits)...), withTypes("ref.null", refNull(h)))
		reads(t, append(bin("fb 14"), bin(digits)...), withTypes("ref.test", ref(h)))
		reads(t, append(bin("fb 15"), bin(digits)...), withTypes("ref.test_null", refNull(h)))
		reads(t, append(bin("fb 16"), bin(digits)...), withTypes("ref.cast", ref(h)))
		reads(t, append(bin("fb 17"), bin(digits)...), withTypes("ref.cast_null", refNull(h)))
	}
	for _, w := range noHeaps() {
		for _, head := range []string{"d0", "fb 14", "fb 15", "fb 16", "fb 17", "fb 18 00 00", "fb 19 03 80 01", "fb 18 01 00 6e", "fb 19 02 00 c0 00"} {
			gives(t, append(bin(head), bin(w.digits)...), len(bin(head))+w.at, w.e)
		}
	}
}

func TestIS2Branches(t *testing.T) {
	for _, name := range []string{"br_on_cast", "br_on_cast_fail"} {
		op := opBytes(named(name))
		for flags := range byte(4) {
			want := api.Instr{Op: named(name), X: 133, Types: []api.ValType{
				{Num: api.TRef, Null: flags == 1 || flags == 3, Heap: api.HAny}, {Num: api.TRef, Null: flags >= 2, Heap: 64},
			}}
			reads(t, append(append(bytes.Clone(op), flags), bin("85 01 6e c0 00")...), want)
		}
		for flags := 4; flags < 256; flags++ {
			gives(t, append(append(bytes.Clone(op), byte(flags)), bin("00 6e 6b")...), 2, api.ErrForm)
		}
		gives(t, op, 2, api.ErrShort)
		for _, x := range u32s() {
			b := append(append(bytes.Clone(op), 0), bin(x.digits)...)
			reads(t, append(b, 0x6e, 3), api.Instr{Op: named(name), X: x.n, Types: []api.ValType{ref(api.HAny), ref(3)}})
		}
		for _, w := range noU32s() {
			gives(t, append(append(bytes.Clone(op), 3), bin(w.digits)...), 3+w.at, w.e)
		}
	}
}

func TestIS2Limits(t *testing.T) {
	labels := append(append(bin("0e"), leb.PutU(api.MaxLabels)...), make([]byte, api.MaxLabels)...)
	shows(t, append(labels, 9), 0, api.Instr{Op: 0x0e, Labels: make([]uint32, api.MaxLabels), X: 9}, len(labels)+1)
	refuses(t, labels, 0, len(labels), api.ErrShort)
	clauses := append(append(bin("1f 40"), leb.PutU(api.MaxLabels)...), bytes.Repeat([]byte{3, 7}, api.MaxLabels)...)
	shows(t, clauses, 0, withBlock("try_table", bare(), many(api.Catch{Kind: 3, Label: 7}, api.MaxLabels)...), len(clauses))
	types := append(append(bin("1c"), leb.PutU(api.MaxParams)...), bytes.Repeat([]byte{0x7f}, api.MaxParams)...)
	shows(t, types, 0, withTypes("select_t", many(num(api.TI32), api.MaxParams)...), len(types))

	for _, c := range []struct {
		head  string
		limit uint64
		part  []byte
	}{{"0e", api.MaxLabels, []byte{0}}, {"1f 40", api.MaxLabels, []byte{2, 0}}, {"1f 64 00", api.MaxLabels, []byte{4}}, {"1c", api.MaxParams, []byte{0x7f}}, {"1c", api.MaxParams, []byte{0x7b}}} {
		for _, n := range []uint64{c.limit + 1, c.limit + 2, 1 << 20, 1 << 31, math.MaxUint32} {
			for size := len(leb.PutU(n)); size <= 5; size++ {
				b := append(bin(c.head), longer(leb.PutU(n), size)...)
				gives(t, b, len(bin(c.head)), api.ErrLong)
			}
		}
		b := append(append(bin(c.head), leb.PutU(c.limit+1)...), bytes.Repeat(c.part, int(c.limit)+2)...)
		refuses(t, b, 0, len(bin(c.head)), api.ErrLong)
	}
	// How many elements an array.new_fixed has is not asked here.
	reads(t, bin("fb 08 00 ff ff ff ff 0f"), withN("array.new_fixed", math.MaxUint32))
}

// Of several faults the first from the left is told, whatever they are.
func TestIS2FirstFaultFromTheLeft(t *testing.T) {
	for _, c := range []struct {
		digits string
		at     int
		e      api.Errno
	}{
		{"fb 7f 80 80 80 80 80", 0, api.ErrForm},
		{"fd", 0, api.ErrSimd},
		{"1f 7b 80 80 80 80 80", 1, api.ErrSimd},
		{"1f 40 81 80 04", 2, api.ErrLong},
		{"1f 40 02 04 00", 3, api.ErrForm},
		{"1f 40 02 00 80 80 80 80 80 04", 8, api.ErrForm},
		{"1f 40 02 03 00 04 80 80 80 80 80", 5, api.ErrForm},
		{"1f 40 02 03 00", 5, api.ErrShort},
		{"0e 81 80 04 80 80 80 80 80", 1, api.ErrLong},
		{"0e 02 80 80 80 80 80", 6, api.ErrForm},
		{"1c e9 07 7b", 1, api.ErrLong},
		{"1c 03 7b 00", 2, api.ErrSimd},
		{"1c 03 00 7b", 2, api.ErrForm},
		{"28 80 01 80 80 80 80 80 80 80 80 80 80", 1, api.ErrForm},
		{"28 40 80 80 80 80 80", 6, api.ErrForm},
		{"fb 18 04 80 80 80 80 80", 2, api.ErrForm},
		{"fb 18 03 80 80 80 80 80 7f", 7, api.ErrForm},
		{"fb 18 03 00 7f 7f", 4, api.ErrForm},
		{"fb 18 03 00 6e 7f", 5, api.ErrForm},
		{"fb 18 03 00 6e", 5, api.ErrShort},
		{"fb 08 80 80 80 80 80 80", 6, api.ErrForm},
	} {
		gives(t, bin(c.digits), c.at, c.e)
	}
}

// What is answered shares nothing with the bytes, and two answers nothing with each other.
func TestIS2NewMemory(t *testing.T) {
	b := bin("0e 02 00 01 02")
	i, _, _ := instr.Read(b, 0)
	j, _, _ := instr.Read(b, 0)
	before := told(i)
	clear(b)
	clear(j.Labels)
	if told(i) != before {
		t.Errorf("%s became %s", before, told(i))
	}
}
