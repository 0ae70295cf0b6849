package module_test

import (
	"bytes"
	"encoding/hex"
	"fmt"
	"strings"
	"testing"

	"ratchet/api"
	"ratchet/leb"
	"ratchet/module"
)

// Ids of sections.
const (
	custom = iota
	types
	imports
	functions
	tables
	memories
	globals
	exports
	start
	elements
	bodies
	datas
	count
	tags
)

// inOrder are the ids of all sections but custom ones, as they may follow one another.
func inOrder() []int {
	return []int{types, imports, functions, tables, memories, tags, globals, exports, start, elements, count, bodies, datas}
}

// bin is bytes by their digits of base 16, with blanks wherever.
func bin(digits string) []byte {
	b, err := hex.DecodeString(strings.ReplaceAll(digits, " ", ""))
	if err != nil {
		panic(err)
	}
	return b
}

func join(l ...[]byte) []byte { return bytes.Join(l, nil) }

// head is what a module begins with.
func head() []byte { return []byte("\x00asm\x01\x00\x00\x00") }

// mod is a module of sections.
func mod(sections ...[]byte) []byte { return append(head(), join(sections...)...) }

// sec is a section of contents.
func sec(id int, contents ...[]byte) []byte {
	c := join(contents...)
	return join([]byte{byte(id)}, leb.PutU(uint64(len(c))), c)
}

// note is a custom section.
func note(name string, contents ...byte) []byte {
	return sec(custom, leb.PutU(uint64(len(name))), []byte(name), contents)
}

// vec is a vector of so many elements, all alike.
func vec(n int, element ...byte) []byte {
	return append(leb.PutU(uint64(n)), bytes.Repeat(element, n)...)
}

// longer is a number's bytes, with others behind that add nothing to it.
func longer(b []byte, size int) []byte {
	out := bytes.Clone(b)
	for len(out) < size {
		out[len(out)-1] |= 0x80
		out = append(out, 0)
	}
	return out
}

// told is a module with all its fields as a text, in which nil and empty lists are the same.
func told(m api.Module) string { return fmt.Sprintf("%+v", m) }

func brief(s string) string {
	if len(s) > 600 {
		return s[:600] + " .."
	}
	return s
}

func short(b []byte) string {
	if len(b) > 80 {
		return fmt.Sprintf("%x .. of %d bytes", b[:80], len(b))
	}
	return fmt.Sprintf("%x", b)
}

// reads asks for a module.
func reads(t *testing.T, b []byte) api.Module {
	t.Helper()
	kept := bytes.Clone(b)
	m, at, e := module.Read(b)
	if at != 0 || e != api.OK {
		t.Errorf("Read(%s): %d, %d, not a module", short(b), at, e)
	}
	if !bytes.Equal(b, kept) {
		t.Errorf("Read(%s) changes its bytes", short(kept))
	}
	return m
}

// shows asks for just that module.
func shows(t *testing.T, b []byte, want api.Module) {
	t.Helper()
	if got := told(reads(t, b)); got != told(want) {
		t.Errorf("Read(%s):\n%s\nnot\n%s", short(b), brief(got), brief(told(want)))
	}
}

// refuses asks for a fault, with which there is no module.
func refuses(t *testing.T, b []byte, place int, e api.Errno) {
	t.Helper()
	m, at, got := module.Read(b)
	if at != place || got != e {
		t.Errorf("Read(%s): %d, %d, not %d, %d", short(b), at, got, place, e)
	}
	if told(m) != told(api.Module{}) {
		t.Errorf("Read(%s): a module beside an error: %s", short(b), brief(told(m)))
	}
}

// holds asks of a section's contents, alone and among others, for just that module.
func holds(t *testing.T, id int, contents []byte, want api.Module) {
	t.Helper()
	shows(t, mod(sec(id, contents)), want)
	b := mod(note("a", 1), sec(id, contents), note("b", 2))
	want.Customs = []api.Custom{{Name: "a", Bytes: []byte{1}}, {Name: "b", Bytes: []byte{2}, After: id}}
	shows(t, b, want)
}

// faults asks of a section's contents for an error and its place from their beginning on: alone, with others ahead and behind, and with another fault behind.
func faults(t *testing.T, id int, contents []byte, place int, e api.Errno) {
	t.Helper()
	s := sec(id, contents)
	from := len(s) - len(contents)
	refuses(t, mod(s), 8+from+place, e)
	refuses(t, mod(note("a", 0xff, 0xff), s, note("b")), 8+6+from+place, e)
	if id != datas {
		refuses(t, mod(s, sec(datas, bin("01 03"))), 8+from+place, e)
	}
	if id != types {
		ahead := sec(types, bin("01 60 00 00"))
		refuses(t, mod(ahead, s), 8+len(ahead)+from+place, e)
	}
}

// short contents: faults with the contents' end as the place.
func cut(t *testing.T, id int, contents []byte) {
	t.Helper()
	faults(t, id, contents, len(contents), api.ErrShort)
}

func num(n int) api.ValType     { return api.ValType{Num: n} }
func ref(h int) api.ValType     { return api.ValType{Num: api.TRef, Heap: h} }
func refNull(h int) api.ValType { return api.ValType{Num: api.TRef, Null: true, Heap: h} }

// constant is i32.const.
func constant(n uint64) api.Instr { return api.Instr{Op: 0x41, N: n} }

// list is new memory, so that what is appended to it changes nothing else.
func list[T any](l ...T) []T { return append([]T(nil), l...) }

// funcs are expressions that each name a function.
func funcs(l ...uint32) [][]api.Instr {
	var out [][]api.Instr
	for _, n := range l {
		out = append(out, list(api.Instr{Op: 0xd2, X: n}))
	}
	return out
}

func many[T any](x T, n int) []T {
	l := make([]T, n)
	for i := range l {
		l[i] = x
	}
	return l
}

// nothing is a function type of nothing, alone in its group.
func nothing() api.RecType {
	return api.RecType{Types: list(api.SubType{Final: true, Comp: api.CompType{Kind: api.CFunc}})}
}
