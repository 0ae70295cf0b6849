package instr_test

import (
	"bytes"
	"encoding/hex"
	"fmt"
	"strings"
	"testing"

	"ratchet/api"
	"ratchet/instr"
)

// bin is bytes by their digits of base 16, with blanks wherever.
func bin(digits string) []byte {
	b, err := hex.DecodeString(strings.ReplaceAll(digits, " ", ""))
	if err != nil {
		panic(err)
	}
	return b
}

// told is an instruction with all its fields as a text, in which nil and empty lists are the same.
func told(i api.Instr) string { return fmt.Sprintf("%#v", plain(i)) }

// plain has no empty list that is not nil.
func plain(i api.Instr) api.Instr {
	i.Labels = append([]uint32(nil), i.Labels...)
	i.Types = append([]api.ValType(nil), i.Types...)
	i.Catches = append([]api.Catch(nil), i.Catches...)
	i.Body, i.Else = plainList(i.Body), plainList(i.Else)
	return i
}

func plainList(l []api.Instr) []api.Instr {
	var out []api.Instr
	for _, i := range l {
		out = append(out, plain(i))
	}
	return out
}

func short(b []byte) string {
	if len(b) > 40 {
		return fmt.Sprintf("%x .. of %d bytes", b[:40], len(b))
	}
	return fmt.Sprintf("%x", b)
}

// shows asks Read for an instruction and the place behind it.
func shows(t *testing.T, b []byte, at int, want api.Instr, next int) {
	t.Helper()
	kept := bytes.Clone(b)
	i, place, e := instr.Read(b, at)
	if told(i) != told(want) || place != next || e != api.OK {
		t.Errorf("Read(%s, %d): %.300s, %d, %d, not %.300s, %d", short(b), at, told(i), place, e, told(want), next)
	}
	if !bytes.Equal(b, kept) {
		t.Errorf("Read(%s, %d) changes its bytes", short(kept), at)
	}
}

// refuses asks Read for an error and its place.
func refuses(t *testing.T, b []byte, at, place int, e api.Errno) {
	t.Helper()
	i, gotPlace, got := instr.Read(b, at)
	if told(i) != told(api.Instr{}) || gotPlace != place || got != e {
		t.Errorf("Read(%s, %d): %.200s, %d, %d, not %d, %d", short(b), at, told(i), gotPlace, got, place, e)
	}
}

// reads asks for an instruction at the bytes' beginning, and between others.
func reads(t *testing.T, b []byte, want api.Instr) {
	t.Helper()
	shows(t, b, 0, want, len(b))
	for _, c := range others() {
		shows(t, between(b, c), 3, want, 3+len(b))
	}
}

// gives asks for an error at the bytes' beginning, and between others; what ends too early is looked at with others ahead alone.
func gives(t *testing.T, b []byte, place int, e api.Errno) {
	t.Helper()
	refuses(t, b, 0, place, e)
	for _, c := range others() {
		around := between(b, c)
		refuses(t, around[:3+len(b)], 3, 3+place, e)
		if e != api.ErrShort {
			refuses(t, around, 3, 3+place, e)
		}
	}
}

func others() []byte { return []byte{0, 0x40, 0x7b, 0xfb, 0xff} }

// between is bytes with three others ahead and as many behind.
func between(b []byte, c byte) []byte {
	out := append([]byte{c, c, c}, b...)
	return append(out, c, c, c)
}

// writes asks Write for bytes.
func writes(t *testing.T, i api.Instr, b []byte) {
	t.Helper()
	before := told(i)
	if out, e := instr.Write(i); !bytes.Equal(out, b) || e != api.OK {
		t.Errorf("Write(%.300s): %s, %d, not %s", told(i), short(out), e, short(b))
	}
	if told(i) != before {
		t.Errorf("Write(%.300s) changes its argument", before)
	}
}

// writesNot asks Write for an error.
func writesNot(t *testing.T, i api.Instr, want api.Errno) {
	t.Helper()
	if out, e := instr.Write(i); len(out) != 0 || e != want {
		t.Errorf("Write(%.300s): %s, %d, not %d", told(i), short(out), e, want)
	}
}

func num(n int) api.ValType     { return api.ValType{Num: n} }
func ref(h int) api.ValType     { return api.ValType{Num: api.TRef, Heap: h} }
func refNull(h int) api.ValType { return api.ValType{Num: api.TRef, Null: true, Heap: h} }

// of is an instruction of that name, with no field told.
func of(name string) api.Instr { return api.Instr{Op: named(name)} }

func withX(name string, x uint32) api.Instr { return api.Instr{Op: named(name), X: x} }

func withXY(name string, x, y uint32) api.Instr { return api.Instr{Op: named(name), X: x, Y: y} }

func withN(name string, n uint64) api.Instr { return api.Instr{Op: named(name), N: n} }

func withTypes(name string, l ...api.ValType) api.Instr {
	return api.Instr{Op: named(name), Types: l}
}

func withMem(name string, align, mem uint32, offset uint64) api.Instr {
	return api.Instr{Op: named(name), Mem: api.MemArg{Align: align, Mem: mem, Offset: offset}}
}

func withBlock(name string, b api.Block, l ...api.Catch) api.Instr {
	return api.Instr{Op: named(name), Block: b, Catches: l}
}

// bare is a block type without params and results.
func bare() api.Block { return api.Block{Type: -1} }

func result(v api.ValType) api.Block { return api.Block{Type: -1, Result: v} }

func many[T any](x T, n int) []T {
	l := make([]T, n)
	for i := range l {
		l[i] = x
	}
	return l
}

// heapCodes are chapter 8's bytes of abstract heap types.
func heapCodes() map[byte]int {
	return map[byte]int{
		0x73: api.HNoFunc, 0x72: api.HNoExtern, 0x71: api.HNone, 0x70: api.HFunc, 0x6f: api.HExtern, 0x6e: api.HAny,
		0x6d: api.HEq, 0x6c: api.HI31, 0x6b: api.HStruct, 0x6a: api.HArray, 0x69: api.HExn, 0x74: api.HNoExn,
	}
}

func numCodes() map[byte]int {
	return map[byte]int{0x7f: api.TI32, 0x7e: api.TI64, 0x7d: api.TF32, 0x7c: api.TF64}
}

// opBytes are an opcode's shortest bytes.
func opBytes(op int) []byte {
	if op < 256 {
		return []byte{byte(op)}
	}
	return []byte{byte(op >> 8), byte(op)}
}
