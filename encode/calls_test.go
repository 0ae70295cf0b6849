package encode_test

import (
	"bytes"
	"encoding/hex"
	"fmt"
	"strings"
	"testing"

	"ratchet/api"
	"ratchet/encode"
	"ratchet/leb"
	"ratchet/section"
)

// inOrder are the ids of all sections but custom ones, by their ranks.
func inOrder() []int {
	return []int{
		section.Type, section.Import, section.Function, section.Table, section.Memory, section.Tag, section.Global,
		section.Export, section.Start, section.Element, section.Count, section.Code, section.Data,
	}
}

// bin is bytes by their digits of base 16, with blanks wherever.
func bin(digits ...string) []byte {
	b, err := hex.DecodeString(strings.ReplaceAll(strings.Join(digits, ""), " ", ""))
	if err != nil {
		panic(err)
	}
	return b
}

// mod is a module of sections.
func mod(sections ...[]byte) []byte {
	return append([]byte("\x00asm\x01\x00\x00\x00"), bytes.Join(sections, nil)...)
}

// sec is a section of contents.
func sec(id int, contents ...[]byte) []byte {
	c := bytes.Join(contents, nil)
	return bytes.Join([][]byte{{byte(id)}, leb.PutU(uint64(len(c))), c}, nil)
}

// note is a custom section.
func note(name string, contents ...byte) []byte {
	return sec(section.Custom, leb.PutU(uint64(len(name))), []byte(name), contents)
}

// told is something with all its fields as a text, in which nil and empty lists are the same.
func told(x any) string { return fmt.Sprintf("%+v", x) }

func brief(x any) string {
	s := told(x)
	return s[:min(400, len(s))]
}

func short(b []byte) string {
	if len(b) > 80 {
		return fmt.Sprintf("%x .. of %d bytes", b[:80], len(b))
	}
	return fmt.Sprintf("%x", b)
}

// gives asks a call that writes something for bytes.
func gives[T any](t *testing.T, write func(T) ([]byte, api.Errno), x T, want []byte) {
	t.Helper()
	before := told(x)
	if b, e := write(x); !bytes.Equal(b, want) || e != api.OK {
		t.Errorf("%s: %s, %d, not %s", brief(x), short(b), e, short(want))
	}
	if told(x) != before {
		t.Errorf("%s is changed", brief(x))
	}
}

// refuses asks it for an error.
func refuses[T any](t *testing.T, write func(T) ([]byte, api.Errno), x T, want api.Errno) {
	t.Helper()
	if b, e := write(x); len(b) != 0 || e != want {
		t.Errorf("%s: %s, %d, not %d", brief(x), short(b), e, want)
	}
}

// writes asks of a module for its bytes and their number.
func writes(t *testing.T, m api.Module, sections ...[]byte) {
	t.Helper()
	want := mod(sections...)
	gives(t, encode.Write, m, want)
	if n, e := encode.Size(m); n != len(want) || e != api.OK {
		t.Errorf("Size(%s): %d, %d, not %d", brief(m), n, e, len(want))
	}
}

// writesNot asks of a module for an error.
func writesNot(t *testing.T, m api.Module, want api.Errno) {
	t.Helper()
	refuses(t, encode.Write, m, want)
	if n, e := encode.Size(m); n != 0 || e != want {
		t.Errorf("Size(%s): %d, %d, not %d", brief(m), n, e, want)
	}
}

// fails asks of a module for an error of its sections.
func fails(t *testing.T, m api.Module, want api.Errno) {
	t.Helper()
	if l, e := encode.Sections(m); len(l) != 0 || e != want {
		t.Errorf("Sections(%s): %s, %d, not %d", brief(m), brief(l), e, want)
	}
	writesNot(t, m, want)
}

func num(n int) api.ValType     { return api.ValType{Num: n} }
func ref(h int) api.ValType     { return api.ValType{Num: api.TRef, Heap: h} }
func refNull(h int) api.ValType { return api.ValType{Num: api.TRef, Null: true, Heap: h} }

func nop() api.Instr { return api.Instr{Op: 0x01} }

// constant is i32.const.
func constant(n uint64) api.Instr { return api.Instr{Op: 0x41, N: n} }

// function is ref.func.
func function(n uint32) api.Instr { return api.Instr{Op: 0xd2, X: n} }

func block(l ...api.Instr) api.Instr {
	return api.Instr{Op: 0x02, Block: api.Block{Type: -1}, Body: l}
}

// seven is an expression: 41 07 0b.
func seven() []api.Instr { return list(constant(7)) }

// noForm, noOp and tooDeep are expressions that have no bytes: each is refused with another error.
func noForm() []api.Instr { return list(api.Instr{Op: 0x05}) }
func noOp() []api.Instr   { return list(api.Instr{Op: 0x06}) }
func tooDeep() []api.Instr {
	l := list(nop())
	for range api.MaxNest + 1 {
		l = list(block(l...))
	}
	return l
}

// refused are these expressions, with their errors.
func refused() map[api.Errno][]api.Instr {
	return map[api.Errno][]api.Instr{api.ErrForm: noForm(), api.ErrArg: noOp(), api.ErrLong: tooDeep()}
}

// list is new memory, so that what is appended to it changes nothing else.
func list[T any](l ...T) []T { return append([]T(nil), l...) }

// funcs are expressions that each name a function.
func funcs(l ...uint32) [][]api.Instr {
	var out [][]api.Instr
	for _, n := range l {
		out = append(out, list(function(n)))
	}
	return out
}

func many[T any](x T, n int) []T {
	l := make([]T, n)
	for i := range l {
		l[i] = x
	}
	return l
}

// group is types in a group.
func group(l ...api.SubType) api.RecType { return api.RecType{Types: l, Explicit: len(l) != 1} }

// nothing is a function type of nothing.
func nothing() api.SubType { return api.SubType{Final: true, Comp: api.CompType{Kind: api.CFunc}} }

// unkind is a type that has no binary form.
func unkind() api.SubType { return api.SubType{Final: true} }
