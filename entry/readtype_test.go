package entry_test

import (
	"bytes"
	"math"
	"testing"

	"ratchet/api"
	"ratchet/leb"
)

func TestP81PlacesOutside(t *testing.T) {
	for _, r := range readings() {
		for _, b := range [][]byte{nil, {}, bin("00"), bin("70 00 00"), bin("4e 01 60 00 00")} {
			for _, at := range []int{-1, -2, math.MinInt, math.MinInt32, len(b) + 1, len(b) + 2, math.MaxInt32, math.MaxInt} {
				r.refuses(t, b, at, 0, api.ErrArg)
			}
			r.refuses(t, b, len(b), len(b), api.ErrShort)
		}
	}
}

func TestP81Examples(t *testing.T) {
	all := readings()
	all["ValType"].reads(t, bin("63 70"), refNull(api.HFunc))
	all["ValType"].reads(t, bin("70"), refNull(api.HFunc))
	all["ValType"].reads(t, bin("64 00"), ref(0))
	all["ValType"].gives(t, bin("7b"), 0, api.ErrSimd)
	all["ValType"].gives(t, bin("78"), 0, api.ErrForm)
	all["HeapType"].gives(t, bin("f0 7f"), 0, api.ErrForm)
	all["RecType"].reads(t, bin("60 01 7f 00"), alone(final(function([]api.ValType{num(api.TI32)}, nil))))
	all["RecType"].reads(t, bin("4e 00"), api.RecType{Explicit: true})
	all["RecType"].reads(t, bin("50 01 00 5f 00"), alone(open(structure(), 0)))
	all["Limits"].reads(t, bin("05 01 02"), api.Limits{Wide: true, Min: 1, Max: 2, HasMax: true})
	all["Limits"].gives(t, bin("02 00"), 0, api.ErrForm)
	all["Limits"].gives(t, bin("01 01"), 2, api.ErrShort)
	all["Import"].gives(t, bin("01 61 01 62 04 01 00"), 5, api.ErrForm)
}

// asNumber asks for what a byte is where a defined type's number may stand, as an s33.
func (r reading) asNumber(t *testing.T, c byte, value func(n int) any) {
	t.Helper()
	switch {
	case c < 0x40:
		r.reads(t, []byte{c}, value(int(c)))
	case c < 0x80:
		r.gives(t, []byte{c}, 0, api.ErrForm)
	default:
		r.gives(t, []byte{c}, 1, api.ErrShort)
		r.reads(t, []byte{c, 0x01}, value(int(c)&127+128))
		r.gives(t, []byte{c, 0x7f}, 0, api.ErrForm)
		r.gives(t, []byte{c, 0x80, 0x80, 0x80, 0x80}, 4, api.ErrForm)
	}
}

func TestP81EachByteOfAHeapType(t *testing.T) {
	r := readings()["HeapType"]
	for c := range 256 {
		if h, ok := heapCodes()[byte(c)]; ok {
			r.reads(t, []byte{byte(c)}, h)
			continue
		}
		r.asNumber(t, byte(c), func(n int) any { return n })
	}
}

// A block's number is read as a heap type's is.
func TestP81HeapTypesAsNumbers(t *testing.T) {
	heap, val, block := readings()["HeapType"], readings()["ValType"], readings()["BlockType"]
	for _, c := range []struct {
		b string
		n int
	}{
		{"00", 0}, {"3f", 63}, {"c0 00", 64}, {"ff 00", 127}, {"80 01", 128}, {"f0 00", 0x70},
		{"80 00", 0}, {"80 80 80 80 00", 0}, {"85 80 00", 5}, {"ff ff ff ff 07", math.MaxInt32}, {"fe ff ff ff 07", math.MaxInt32 - 1},
	} {
		b := bin(c.b)
		heap.reads(t, b, c.n)
		val.reads(t, append(bin("64"), b...), ref(c.n))
		val.reads(t, append(bin("63"), b...), refNull(c.n))
		block.reads(t, b, api.Block{Type: c.n})
	}
	for _, c := range []struct {
		b  string
		at int
		e  api.Errno
	}{
		{"80 80 80 80 08", 0, api.ErrLong}, {"ff ff ff ff 0f", 0, api.ErrLong}, {"80 80 80 80 0c", 0, api.ErrLong},
		{"ff 7f", 0, api.ErrForm}, {"80 7f", 0, api.ErrForm}, {"ff ff ff ff 7f", 0, api.ErrForm}, {"80 80 80 80 70", 0, api.ErrForm}, {"f0 ff 7f", 0, api.ErrForm},
		{"80 80 80 80 10", 4, api.ErrForm}, {"80 80 80 80 50", 4, api.ErrForm}, {"80 80 80 80 80", 4, api.ErrForm}, {"ff ff ff ff ff", 4, api.ErrForm},
		{"80", 1, api.ErrShort}, {"ff ff ff", 3, api.ErrShort}, {"80 80 80 80", 4, api.ErrShort},
	} {
		b := bin(c.b)
		heap.gives(t, b, c.at, c.e)
		val.gives(t, append(bin("64"), b...), 1+c.at, c.e)
		val.gives(t, append(bin("63"), b...), 1+c.at, c.e)
		block.gives(t, b, c.at, c.e)
	}
}

// asReference asks for what a byte is where a reference type may stand; false: it begins none.
func (r reading) asReference(t *testing.T, c byte, value func(v api.ValType) any) bool {
	t.Helper()
	if h, ok := heapCodes()[c]; ok {
		r.reads(t, []byte{c}, value(refNull(h)))
		return true
	}
	if c != 0x63 && c != 0x64 {
		return false
	}
	for code, h := range heapCodes() {
		r.reads(t, []byte{c, code}, value(api.ValType{Num: api.TRef, Null: c == 0x63, Heap: h}))
	}
	r.reads(t, []byte{c, 9}, value(api.ValType{Num: api.TRef, Null: c == 0x63, Heap: 9}))
	// Behind it stands a heap type, where a vector type may not.
	for _, wrong := range []byte{0x7b, 0x7f, 0x78, 0x63, 0x64, 0x40, 0x68, 0x75} {
		r.gives(t, []byte{c, wrong}, 1, api.ErrForm)
	}
	r.gives(t, []byte{c}, 1, api.ErrShort)
	return true
}

func TestP81EachByteOfAReferenceType(t *testing.T) {
	r := readings()["RefType"]
	for c := range 256 {
		if !r.asReference(t, byte(c), func(v api.ValType) any { return v }) {
			r.gives(t, []byte{byte(c)}, 0, api.ErrForm)
			r.gives(t, []byte{byte(c), 0x00}, 0, api.ErrForm)
		}
	}
}

// asValue asks for what a byte is where a value type may stand; false: it begins none.
func (r reading) asValue(t *testing.T, c byte, value func(v api.ValType) any) bool {
	t.Helper()
	if n, ok := numCodes()[c]; ok {
		r.reads(t, []byte{c}, value(num(n)))
		return true
	}
	if c == 0x7b {
		r.gives(t, []byte{c}, 0, api.ErrSimd)
		return true
	}
	return r.asReference(t, c, value)
}

func TestP81EachByteOfAValueType(t *testing.T) {
	r := readings()["ValType"]
	for c := range 256 {
		if !r.asValue(t, byte(c), func(v api.ValType) any { return v }) {
			r.gives(t, []byte{byte(c)}, 0, api.ErrForm)
			r.gives(t, []byte{byte(c), 0x00}, 0, api.ErrForm)
		}
	}
}

func TestP81EachByteOfABlockType(t *testing.T) {
	r := readings()["BlockType"]
	for c := range 256 {
		if c == 0x40 {
			r.reads(t, []byte{byte(c)}, api.Block{Type: -1})
			continue
		}
		if !r.asValue(t, byte(c), func(v api.ValType) any { return api.Block{Type: -1, Result: v} }) {
			r.asNumber(t, byte(c), func(n int) any { return api.Block{Type: n} })
		}
	}
}

func TestP81ValTypes(t *testing.T) {
	r := readings()["ValTypes"]
	r.reads(t, bin("00"), []api.ValType{})
	r.reads(t, bin("80 80 80 80 00"), []api.ValType{})
	r.reads(t, bin("01 7f"), []api.ValType{num(api.TI32)})
	r.reads(t, bin("84 00 7f 64 6e 63 81 00 71"), []api.ValType{num(api.TI32), ref(api.HAny), refNull(1), refNull(api.HNone)})
	r.gives(t, bin("01"), 1, api.ErrShort)
	r.gives(t, bin("02 7f"), 2, api.ErrShort)
	r.gives(t, bin("80"), 1, api.ErrShort)
	r.gives(t, bin("80 80 80 80 10"), 4, api.ErrForm)
	r.gives(t, bin("02 7f 7b"), 2, api.ErrSimd)
	r.gives(t, bin("02 7b 00"), 1, api.ErrSimd)
	r.gives(t, bin("02 00 7b"), 1, api.ErrForm)
	r.gives(t, bin("01 78"), 1, api.ErrForm)
	r.gives(t, bin("01 77"), 1, api.ErrForm)
	r.gives(t, bin("01 40"), 1, api.ErrForm)
}

func TestP81EachByteOfAField(t *testing.T) {
	r := readings()["Field"]
	stored := []struct {
		b string
		v api.ValType
	}{
		{"7f", num(api.TI32)}, {"7e", num(api.TI64)}, {"7d", num(api.TF32)}, {"7c", num(api.TF64)}, {"78", num(api.T8)}, {"77", num(api.T16)},
		{"6e", refNull(api.HAny)}, {"64 6e", ref(api.HAny)}, {"63 6e", refNull(api.HAny)}, {"64 85 00", ref(5)},
	}
	for _, c := range stored {
		b := bin(c.b)
		for flag := range 256 {
			whole := append(bytes.Clone(b), byte(flag))
			switch flag {
			case 0, 1:
				r.reads(t, whole, api.Field{Type: c.v, Mut: flag == 1})
			default:
				r.gives(t, whole, len(b), api.ErrForm)
			}
		}
		r.gives(t, b, len(b), api.ErrShort)
	}
	for c := range 256 {
		first := byte(c)
		switch {
		case first == 0x7b:
			r.gives(t, []byte{first, 0}, 0, api.ErrSimd)
		case numCodes()[first] == 0 && packedCodes()[first] == 0 && heapCodes()[first] == 0 && first != 0x63 && first != 0x64:
			r.gives(t, []byte{first, 0}, 0, api.ErrForm)
		}
	}
	r.gives(t, bin("80 01 00"), 0, api.ErrForm)
	r.gives(t, bin("64 77 00"), 1, api.ErrForm)
}

// comps are composite types of each form.
func comps() []struct {
	b string
	c api.CompType
} {
	return []struct {
		b string
		c api.CompType
	}{
		{"60 00 00", function(nil, nil)},
		{"60 01 7f 00", function([]api.ValType{num(api.TI32)}, nil)},
		{"60 00 01 7e", function(nil, []api.ValType{num(api.TI64)})},
		{"60 02 70 64 03 82 00 7d 7c", function([]api.ValType{refNull(api.HFunc), ref(3)}, []api.ValType{num(api.TF32), num(api.TF64)})},
		{"5f 00", structure()},
		{"5f 01 78 01", structure(mut(num(api.T8)))},
		{"5f 03 77 00 7f 01 63 00 00", structure(fixed(num(api.T16)), mut(num(api.TI32)), fixed(refNull(0)))},
		{"5e 78 00", array(fixed(num(api.T8)))},
		{"5e 6e 01", array(mut(refNull(api.HAny)))},
	}
}

func TestP81CompType(t *testing.T) {
	comp, sub, rec := readings()["CompType"], readings()["SubType"], readings()["RecType"]
	for _, c := range comps() {
		comp.reads(t, bin(c.b), c.c)
		sub.reads(t, bin(c.b), final(c.c))
		rec.reads(t, bin(c.b), alone(final(c.c)))
	}
	for first := range 256 {
		b := []byte{byte(first)}
		if first == 0x60 || first == 0x5f || first == 0x5e {
			comp.gives(t, b, 1, api.ErrShort)
			continue
		}
		comp.gives(t, b, 0, api.ErrForm)
		if first != 0x50 && first != 0x4f {
			sub.gives(t, b, 0, api.ErrForm)
		}
		if first != 0x50 && first != 0x4f && first != 0x4e {
			rec.gives(t, b, 0, api.ErrForm)
		}
	}
	comp.gives(t, bin("60 00"), 2, api.ErrShort)
	comp.gives(t, bin("60 01 78 00"), 2, api.ErrForm)
	comp.gives(t, bin("60 00 01 77"), 3, api.ErrForm)
	comp.gives(t, bin("60 01 7b 00"), 2, api.ErrSimd)
	comp.gives(t, bin("60 00 01 7b"), 3, api.ErrSimd)
	comp.gives(t, bin("5f 01 7b 00"), 2, api.ErrSimd)
	comp.gives(t, bin("5e 7b 00"), 1, api.ErrSimd)
	comp.gives(t, bin("5f 02 78 01 78 02"), 5, api.ErrForm)
	comp.gives(t, bin("5e 78 02"), 2, api.ErrForm)
	comp.gives(t, bin("5e 78"), 2, api.ErrShort)
}

func TestP81SubType(t *testing.T) {
	sub, rec := readings()["SubType"], readings()["RecType"]
	for _, c := range comps() {
		for _, s := range []struct {
			head   string
			final  bool
			supers []int
		}{
			{"50 00", false, nil}, {"4f 00", true, nil}, {"50 01 00", false, []int{0}}, {"4f 01 07", true, []int{7}},
			{"50 83 00 40 ff 00 85 80 00", false, []int{64, 127, 5}}, {"4f 02 ff ff ff ff 07 01", true, []int{math.MaxInt32, 1}},
		} {
			want := api.SubType{Final: s.final, Supers: s.supers, Comp: c.c}
			sub.reads(t, bin(s.head+c.b), want)
			rec.reads(t, bin(s.head+c.b), alone(want))
		}
	}
	for _, head := range []string{"50", "4f"} {
		for first := range 256 {
			if first != 0x60 && first != 0x5f && first != 0x5e {
				sub.gives(t, append(bin(head+"00"), byte(first)), 2, api.ErrForm)
			}
		}
		sub.gives(t, bin(head), 1, api.ErrShort)
		sub.gives(t, bin(head+"01"), 2, api.ErrShort)
		sub.gives(t, bin(head+"01 00"), 3, api.ErrShort)
		sub.gives(t, bin(head+"01 80 80 80 80 10"), 6, api.ErrForm)
		sub.gives(t, bin(head+"01 80 80 80 80 08 5f 00"), 2, api.ErrLong)
		sub.gives(t, bin(head+"02 00 ff ff ff ff 0f 5f 00"), 3, api.ErrLong)
		// A super is a u32, not an s33: 70 and 7f are numbers as others are.
		sub.reads(t, bin(head+"02 70 7f 5f 00"), api.SubType{Final: head == "4f", Supers: []int{0x70, 0x7f}, Comp: structure()})
	}
	sub.gives(t, bin("4e 01 5f 00"), 0, api.ErrForm)
}

func TestP81RecType(t *testing.T) {
	rec := readings()["RecType"]
	one, two := final(structure()), open(array(mut(ref(1))), 0)
	rec.reads(t, bin("4e 00"), api.RecType{Explicit: true})
	rec.reads(t, bin("4e 80 00"), api.RecType{Explicit: true})
	rec.reads(t, bin("4e 01 5f 00"), api.RecType{Types: []api.SubType{one}, Explicit: true})
	rec.reads(t, bin("5f 00"), api.RecType{Types: []api.SubType{one}})
	rec.reads(t, bin("4f 00 5f 00"), api.RecType{Types: []api.SubType{one}})
	rec.reads(t, bin("4e 02 5f 00 50 01 00 5e 64 01 01"), api.RecType{Types: []api.SubType{one, two}, Explicit: true})
	rec.gives(t, bin("4e"), 1, api.ErrShort)
	rec.gives(t, bin("4e 01"), 2, api.ErrShort)
	rec.gives(t, bin("4e 02 5f 00"), 4, api.ErrShort)
	rec.gives(t, bin("4e 01 4e 00"), 2, api.ErrForm)
	rec.gives(t, bin("4e 02 5f 00 61"), 4, api.ErrForm)
	rec.gives(t, bin("4e 80 80 80 80 10"), 5, api.ErrForm)
	rec.gives(t, bin("51 00 5f 00"), 0, api.ErrForm)
}

// vectors are lists that have a limit: what stands ahead of their number, an element, what stands behind them, and the value of so many elements.
func vectors() []struct {
	call                string
	ahead, part, behind string
	limit               int
	value               func(n int) any
} {
	return []struct {
		call                string
		ahead, part, behind string
		limit               int
		value               func(n int) any
	}{
		{"ValTypes", "", "7f", "", api.MaxParams, func(n int) any { return many(num(api.TI32), n) }},
		{"CompType", "60", "7e", "00", api.MaxParams, func(n int) any { return function(many(num(api.TI64), n), nil) }},
		{"CompType", "60 00", "70", "", api.MaxParams, func(n int) any { return function(nil, many(refNull(api.HFunc), n)) }},
		{"SubType", "50", "02", "5f 00", api.MaxParams, func(n int) any { return open(structure(), many(2, n)...) }},
		{"SubType", "4f", "02", "5f 00", api.MaxParams, func(n int) any { return final(structure(), many(2, n)...) }},
		{"RecType", "50", "02", "5f 00", api.MaxParams, func(n int) any { return alone(open(structure(), many(2, n)...)) }},
		{"CompType", "5f", "78 01", "", api.MaxFields, func(n int) any { return structure(many(mut(num(api.T8)), n)...) }},
		{"RecType", "4e", "5f 00", "", api.MaxTypes, func(n int) any { return api.RecType{Types: many(final(structure()), n), Explicit: true} }},
	}
}

func many[T any](x T, n int) []T {
	l := make([]T, n)
	for i := range l {
		l[i] = x
	}
	return l
}

func TestP81LimitsOfLists(t *testing.T) {
	for _, c := range vectors() {
		r := readings()[c.call]
		ahead := bin(c.ahead)
		of := func(n int, number []byte) []byte {
			b := append(bytes.Clone(ahead), number...)
			b = append(b, bytes.Repeat(bin(c.part), n)...)
			return append(b, bin(c.behind)...)
		}
		r.reads(t, of(c.limit-1, leb.PutU(uint64(c.limit-1))), c.value(c.limit-1))
		r.reads(t, of(c.limit, leb.PutU(uint64(c.limit))), c.value(c.limit))
		r.reads(t, of(c.limit, longer(leb.PutU(uint64(c.limit)), 5)), c.value(c.limit))
		for _, n := range []uint64{uint64(c.limit) + 1, uint64(c.limit) + 2, 1 << 31, math.MaxUint32} {
			// Whether its elements are there, and whether they can be, comes behind.
			for _, number := range [][]byte{leb.PutU(n), longer(leb.PutU(n), 5)} {
				r.gives(t, of(c.limit+2, number), len(ahead), api.ErrLong)
				r.gives(t, of(0, number), len(ahead), api.ErrLong)
				r.gives(t, append(bytes.Clone(ahead), number...), len(ahead), api.ErrLong)
				r.gives(t, append(append(bytes.Clone(ahead), number...), 0x7b), len(ahead), api.ErrLong)
			}
		}
	}
}

// longer is a number that is not below 0 in so many bytes.
func longer(b []byte, size int) []byte {
	out := bytes.Clone(b)
	for len(out) < size {
		out[len(out)-1] |= 0x80
		out = append(out, 0)
	}
	return out
}

// What is answered shares nothing with the bytes, which stay as they are.
func TestP81NewMemory(t *testing.T) {
	b := bin("4e 02 50 02 01 02 60 02 7f 7e 01 7d 5f 02 78 00 77 01")
	first := bytes.Clone(b)
	g, _, _ := readings()["RecType"].read(b, 0)
	text := told(g)
	if !bytes.Equal(b, first) {
		t.Errorf("the bytes are changed: %x", b)
	}
	clear(b)
	if told(g) != text {
		t.Errorf("%s was %s", told(g), text)
	}
	group := g.(api.RecType)
	comp := group.Types[0].Comp
	_ = append(comp.Params[:1], num(api.TF64))
	_ = append(group.Types[0].Supers[:1], 9)
	again, _, _ := readings()["RecType"].read(first, 0)
	if told(again) != text || told(comp.Results) != told([]api.ValType{num(api.TF32)}) {
		t.Error("two lists share memory")
	}
}
