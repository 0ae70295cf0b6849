package code_test

import (
	"bytes"
	"encoding/hex"
	"fmt"
	"strings"
	"testing"

	"ratchet/api"
	"ratchet/code"
	"ratchet/instr"
)

// bin is bytes by their digits of base 16, with blanks wherever.
func bin(digits string) []byte {
	b, err := hex.DecodeString(strings.ReplaceAll(digits, " ", ""))
	if err != nil {
		panic(err)
	}
	return b
}

// told is a list with all fields of its instructions as a text, in which nil and empty lists are the same.
func told(l []api.Instr) string { return fmt.Sprintf("%#v", plain(l)) }

// plain has no empty list that is not nil.
func plain(l []api.Instr) []api.Instr {
	var out []api.Instr
	for _, i := range l {
		i.Labels = append([]uint32(nil), i.Labels...)
		i.Types = append([]api.ValType(nil), i.Types...)
		i.Catches = append([]api.Catch(nil), i.Catches...)
		i.Body, i.Else = plain(i.Body), plain(i.Else)
		out = append(out, i)
	}
	return out
}

// sketch is a list's opcodes, with brackets around parts: shorter than told.
func sketch(l []api.Instr) string {
	var out []string
	for _, i := range l {
		s := fmt.Sprintf("%x", i.Op)
		if len(i.Body) > 0 {
			s += "(" + sketch(i.Body) + ")"
		}
		if i.HasElse || len(i.Else) > 0 {
			s += fmt.Sprintf("else %v(%s)", i.HasElse, sketch(i.Else))
		}
		out = append(out, s)
	}
	s := strings.Join(out, " ")
	return s[:min(300, len(s))]
}

func short(b []byte) string {
	if len(b) > 40 {
		return fmt.Sprintf("%x .. of %d bytes", b[:40], len(b))
	}
	return fmt.Sprintf("%x", b)
}

// shows asks Expr, and Body behind no locals, for an expression and the place behind it.
func shows(t *testing.T, b []byte, at int, want []api.Instr, next int) {
	t.Helper()
	kept := bytes.Clone(b)
	l, place, e := code.Expr(b, at)
	if told(l) != told(want) || place != next || e != api.OK {
		t.Errorf("Expr(%s, %d): %s, %d, %d, not %s, %d", short(b), at, sketch(l), place, e, sketch(want), next)
	}
	if !bytes.Equal(b, kept) {
		t.Errorf("Expr(%s, %d) changes its bytes", short(kept), at)
	}
	_, l, place, e = code.Body(inserted(b, at, 0), at)
	if told(l) != told(want) || place != next+1 || e != api.OK {
		t.Errorf("Body(%s, %d): %s, %d, %d, not %s, %d", short(b), at, sketch(l), place, e, sketch(want), next+1)
	}
}

// stops asks Expr for an error and its place.
func stops(t *testing.T, b []byte, at, place int, e api.Errno) {
	t.Helper()
	l, gotPlace, got := code.Expr(b, at)
	if len(l) != 0 || gotPlace != place || got != e {
		t.Errorf("Expr(%s, %d): %s, %d, %d, not %d, %d", short(b), at, sketch(l), gotPlace, got, place, e)
	}
}

// refuses asks Body for it too.
func refuses(t *testing.T, b []byte, at, place int, e api.Errno) {
	t.Helper()
	stops(t, b, at, place, e)
	locals, l, gotPlace, got := code.Body(inserted(b, at, 1, 1, 0x7f), at)
	if len(locals) != 0 || len(l) != 0 || gotPlace != place+3 || got != e {
		t.Errorf("Body(%s, %d): %v, %s, %d, %d, not %d, %d", short(b), at, locals, sketch(l), gotPlace, got, place+3, e)
	}
}

// inserted is bytes with others put in at a place.
func inserted(b []byte, at int, more ...byte) []byte {
	return append(append(bytes.Clone(b[:at]), more...), b[at:]...)
}

// reads asks for an expression at the bytes' beginning, and between others.
func reads(t *testing.T, b []byte, want ...api.Instr) {
	t.Helper()
	shows(t, b, 0, want, len(b))
	for _, c := range others() {
		shows(t, between(b, c), 3, want, 3+len(b))
	}
}

// gives asks for an error at the bytes' beginning, and between others; what ends too early is looked at with others ahead alone.
func gives(t *testing.T, b []byte, place int, e api.Errno) {
	t.Helper()
	refuses(t, b, 0, place, e)
	for _, c := range others() {
		around := between(b, c)
		refuses(t, around[:3+len(b)], 3, 3+place, e)
		if e != api.ErrShort {
			refuses(t, around, 3, 3+place, e)
		}
	}
}

func others() []byte { return []byte{0, 0x05, 0x0b, 0x40, 0xfd, 0xff} }

// between is bytes with three others ahead and as many behind.
func between(b []byte, c byte) []byte {
	out := append([]byte{c, c, c}, b...)
	return append(out, c, c, c)
}

// writes asks PutExpr for bytes.
func writes(t *testing.T, l []api.Instr, b []byte) {
	t.Helper()
	before := told(l)
	if out, e := code.PutExpr(l); !bytes.Equal(out, b) || e != api.OK {
		t.Errorf("PutExpr(%s): %s, %d, not %s", sketch(l), short(out), e, short(b))
	}
	if told(l) != before {
		t.Errorf("PutExpr(%s) changes its argument", sketch(l))
	}
}

// writesNot asks PutExpr for an error.
func writesNot(t *testing.T, want api.Errno, l ...api.Instr) {
	t.Helper()
	if out, e := code.PutExpr(l); len(out) != 0 || e != want {
		t.Errorf("PutExpr(%s): %s, %d, not %d", sketch(l), short(out), e, want)
	}
}

func num(n int) api.ValType     { return api.ValType{Num: n} }
func ref(h int) api.ValType     { return api.ValType{Num: api.TRef, Heap: h} }
func refNull(h int) api.ValType { return api.ValType{Num: api.TRef, Null: true, Heap: h} }

// of is an instruction of that opcode, with no field told.
func of(op int) api.Instr { return api.Instr{Op: op} }

func nop() api.Instr { return of(0x01) }

func constant(n uint64) api.Instr { return api.Instr{Op: 0x41, N: n} }

// none is a block type without params and results.
func none() api.Block { return api.Block{Type: -1} }

// block is one of the four, with a body.
func block(op int, body ...api.Instr) api.Instr {
	return api.Instr{Op: op, Block: none(), Body: body}
}

// both is an if with two parts.
func both(first, second []api.Instr) api.Instr {
	return api.Instr{Op: 0x04, Block: none(), Body: first, HasElse: true, Else: second}
}

// list is new memory, so that what is appended to it changes nothing else.
func list(l ...api.Instr) []api.Instr { return append([]api.Instr(nil), l...) }

// blocks are the opcodes of the four that have a body.
func blocks() []int { return []int{0x02, 0x03, 0x04, 0x1f} }

// head is the bytes of one of the four without params, results and clauses.
func head(op int) []byte {
	if op == 0x1f {
		return []byte{0x1f, 0x40, 0}
	}
	return []byte{byte(op), 0x40}
}

// deep is so many blocks within one another, around a list.
func deep(n int, op int, l ...api.Instr) []api.Instr {
	for range n {
		l = []api.Instr{block(op, l...)}
	}
	return l
}

// deepBytes are those of deep, around bytes, without the last end.
func deepBytes(n int, op int, b ...byte) []byte {
	out := append(bytes.Repeat(head(op), n), b...)
	return append(out, bytes.Repeat([]byte{0x0b}, n)...)
}

func many[T any](x T, n int) []T {
	l := make([]T, n)
	for i := range l {
		l[i] = x
	}
	return l
}

// same is whether two lists are, by all fields that instr asks for.
func same(a, b []api.Instr) bool {
	if len(a) != len(b) {
		return false
	}
	for n := range a {
		if !instr.Same(a[n], b[n]) {
			return false
		}
	}
	return true
}
