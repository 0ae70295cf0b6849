package arena_test

import (
	"fmt"
	"math/rand"
	"runtime/debug"
	"testing"

	"ratchet/api"
	"ratchet/arena"
	"ratchet/canon"
	"ratchet/types"
)

// TestMain lets more garbage lie: the tests make a great many small arenas, none of which lives on.
func TestMain(m *testing.M) {
	debug.SetGCPercent(800)
	m.Run()
}

// equal tells whether two things are the same to the last field; nil and empty lists are.
func equal(a, b any) bool { return fmt.Sprint(a) == fmt.Sprint(b) }

// read makes a list of groups from their texts.
func read(texts ...string) []api.RecType {
	var l []api.RecType
	for _, s := range texts {
		r, at, e := types.ParseRec(s)
		if e != api.OK {
			panic(fmt.Sprint(s, ": error ", e, " at ", at))
		}
		l = append(l, r)
	}
	return l
}

// table makes a table of types, whose ids are the texts' places.
func table(texts ...string) *canon.Table {
	t := canon.New()
	add(t, read(texts...)...)
	return t
}

func add(t *canon.Table, l ...api.RecType) []int {
	ids, at, e := t.Add(l)
	if e != api.OK {
		panic(fmt.Sprint("error ", e, " at ", at))
	}
	return ids
}

// made is an arena that must be.
func made(words int, t *canon.Table) *arena.Arena {
	a, e := arena.New(words, t)
	if e != api.OK {
		panic(e)
	}
	return a
}

// must is the answer of a call that is not to be refused.
func must[T any](v T, e api.Errno) T {
	if e != api.OK {
		panic(e)
	}
	return v
}

// sub makes a type of a kind of such parts, whatever they are.
func sub(kind int, nums ...int) api.SubType {
	s := api.SubType{Comp: api.CompType{Kind: kind}}
	for i, n := range nums {
		s.Comp.Fields = append(s.Comp.Fields, api.Field{Type: api.ValType{Num: n, Null: i%2 == 0, Heap: api.HAny}, Mut: i%3 == 0})
	}
	return s
}

func structOf(nums ...int) api.SubType { return sub(api.CStruct, nums...) }

func arrayOf(num int) api.SubType { return sub(api.CArray, num) }

// group is a group of one type.
func group(s api.SubType) api.RecType { return api.RecType{Types: []api.SubType{s}} }

// number is a value of a number's type.
func number(num int, bits uint64) api.Value { return api.Value{Type: num, Bits: bits} }

func i32(bits uint64) api.Value { return number(api.TI32, bits) }

// ref is a value of a reference.
func ref(kind int, addr uint64, out bool) api.Value {
	return api.Value{Type: api.TRef, Ref: api.Ref{Kind: kind, Addr: addr, Out: out}}
}

// edges are numbers at which an address, a number of parts, bits may go wrong.
var edges = []uint64{0, 1, 2, 0x7f, 0x80, 0xff, 0x100, 0x7fff, 0x8000, 0xffff, 1 << 16, 1<<31 - 1, 1 << 31, 1<<32 - 1, 1 << 32, 1<<60 - 1, 1 << 60, 1 << 61, 1 << 63, 1<<64 - 2, 1<<64 - 1}

// bitsOf are some bits, many of them at an edge.
func bitsOf(r *rand.Rand) uint64 {
	if r.Intn(2) == 0 {
		return edges[r.Intn(len(edges))]
	}
	return r.Uint64()
}

// refOf is a reference that may lie in a part.
func refOf(r *rand.Rand) api.Ref {
	kind := r.Intn(api.RExn + 1)
	if kind == api.RNull {
		return api.Ref{}
	}
	return api.Ref{Kind: kind, Addr: bitsOf(r) % (1 << 60), Out: r.Intn(2) == 0}
}

// wrongRefs are references that can't lie in a part.
func wrongRefs() []api.Ref {
	l := []api.Ref{{Addr: 1}, {Out: true}, {Addr: 1 << 60}, {Kind: -1}, {Kind: api.RExn + 1}, {Kind: 1 << 40}, {Kind: -1 << 63}, {Kind: 8}}
	for k := api.RFunc; k <= api.RExn; k++ {
		for _, n := range []uint64{1 << 60, 1<<60 + 1, 1 << 61, 1 << 63, 1<<64 - 1} {
			l = append(l, api.Ref{Kind: k, Addr: n}, api.Ref{Kind: k, Addr: n, Out: true})
		}
	}
	return l
}

// valueOf is a value that fits a part of a type, with bits that don't count.
func valueOf(r *rand.Rand, num int) api.Value {
	switch num {
	case api.TRef:
		return api.Value{Type: num, Bits: bitsOf(r), Ref: refOf(r)}
	case api.T8, api.T16:
		num = api.TI32
	}
	v := number(num, bitsOf(r))
	if r.Intn(4) == 0 {
		v.Ref = wrongRefs()[r.Intn(len(wrongRefs()))]
	}
	return v
}

// told is what Get tells of a part of a type when a value has been put into it, by the chapter's words.
func told(num int, v api.Value, signed bool) api.Value {
	packed := func(width uint) api.Value {
		n := v.Bits % (1 << width)
		if signed && n >= 1<<(width-1) {
			n += 1<<32 - 1<<width
		}
		return i32(n)
	}
	switch num {
	case api.T8:
		return packed(8)
	case api.T16:
		return packed(16)
	case api.TI32, api.TF32:
		return number(num, v.Bits%(1<<32))
	case api.TRef:
		return api.Value{Type: num, Ref: v.Ref}
	}
	return number(num, v.Bits)
}

// first is what a part of a type is when nothing has been put into it.
func first(num int) api.Value {
	if num == api.T8 || num == api.T16 {
		num = api.TI32
	}
	return api.Value{Type: num}
}

// fitting tells whether a value fits a part of a type, by the chapter's words.
func fitting(num int, v api.Value) bool {
	switch num {
	case api.T8, api.T16:
		return v.Type == api.TI32
	case api.TI32, api.TI64, api.TF32, api.TF64:
		return v.Type == num
	case api.TRef:
		r := v.Ref
		return v.Type == num && (r == api.Ref{} || r.Kind >= 1 && r.Kind <= 5 && r.Addr < 1<<60)
	}
	return false
}

// widths are those of parts by their types' numbers.
var widths = map[int]int{api.T8: 8, api.T16: 16, api.TI32: 32, api.TF32: 32, api.TI64: 64, api.TF64: 64, api.TRef: 64}

// nums are the numbers of parts' types.
var nums = []int{api.TI32, api.TI64, api.TF32, api.TF64, api.TRef, api.T8, api.T16}

// lain tells where fields lie, and how many words there are for them, by going from bit to bit.
func lain(fields []int) ([]api.Slot, int) {
	var l []api.Slot
	bit := 0
	for _, f := range fields {
		for bit%widths[f] != 0 {
			bit++
		}
		l = append(l, api.Slot{Word: bit / 64, Shift: bit % 64, Bits: widths[f]})
		bit += widths[f]
	}
	words := 0
	for words*64 < bit {
		words++
	}
	return l, words
}
