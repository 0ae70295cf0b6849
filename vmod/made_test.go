package vmod_test

import (
	"fmt"
	"math"
	"runtime/debug"
	"strings"
	"testing"

	"ratchet/api"
	"ratchet/instr"
	"ratchet/opcode"
	"ratchet/types"
	"ratchet/vmod"
)

// TestMain lets more garbage lie: the tests make a great many small modules, none of which lives on.
func TestMain(m *testing.M) {
	debug.SetGCPercent(800)
	m.Run()
}

// read makes a list of groups from their texts.
func read(texts ...string) []api.RecType {
	var l []api.RecType
	for _, s := range texts {
		r, at, e := types.ParseRec(s)
		if e != api.OK {
			panic(fmt.Sprint(s, ": error ", e, " at ", at))
		}
		l = append(l, r)
	}
	return l
}

// val is a type by its text; of none it is the one of no type.
func val(text string) api.ValType {
	if text == "none" {
		return api.ValType{}
	}
	v, at, e := types.Parse(text)
	if e != api.OK {
		panic(fmt.Sprint(text, ": error ", e, " at ", at))
	}
	return v
}

// vals are types by their texts, with commas between.
func vals(texts string) []api.ValType {
	if texts == "" {
		return nil
	}
	var l []api.ValType
	for s := range strings.SplitSeq(texts, ",") {
		l = append(l, val(strings.TrimSpace(s)))
	}
	return l
}

// ref is a type of references.
func ref(null bool, heap int) api.ValType {
	return api.ValType{Num: api.TRef, Null: null, Heap: heap}
}

// Instructions by the fields that they have.
func plain(op int) api.Instr             { return api.Instr{Op: op} }
func x(op int, n uint32) api.Instr       { return api.Instr{Op: op, X: n} }
func xy(op int, n, m uint32) api.Instr   { return api.Instr{Op: op, X: n, Y: m} }
func i32(n uint64) api.Instr             { return api.Instr{Op: opcode.I32Const, N: n} }
func i64(n uint64) api.Instr             { return api.Instr{Op: opcode.I64Const, N: n} }
func cast(op int, text string) api.Instr { return api.Instr{Op: op, Types: vals(text)} }
func null(text string) api.Instr {
	return cast(opcode.RefNull, strings.Replace("(ref null T)", "T", text, 1))
}
func fn(n uint32) api.Instr { return x(opcode.RefFunc, n) }
func get(n uint32) api.Instr {
	return x(opcode.GlobalGet, n)
}

// nop and the like need no fields.
var (
	nop         = plain(opcode.Nop)
	drop        = plain(opcode.Drop)
	unreachable = plain(opcode.Unreachable)
	add         = plain(opcode.I32Add)
)

// list is a row of instructions.
func list(l ...api.Instr) []api.Instr { return l }

// block is a block, loop, try_table or if without a second part. Its text is the number of its type, or its result's text, or empty.
func block(op int, text string, body ...api.Instr) api.Instr {
	b := api.Block{Type: -1}
	var n int
	if _, e := fmt.Sscanf(text, "#%d", &n); e == nil {
		b.Type = n
	} else if text != "" {
		b.Result = val(text)
	}
	return api.Instr{Op: op, Block: b, Body: body}
}

// choice is an if with two parts.
func choice(text string, first, second []api.Instr) api.Instr {
	i := block(opcode.If, text, first...)
	i.Else, i.HasElse = second, true
	return i
}

// told is anything as one text, in which nil and empty lists are the same.
func told(answers ...any) string { return fmt.Sprintf("%+v", answers) }

// texts tells instructions, nested ones too.
func texts(l []api.Instr) string {
	var b strings.Builder
	for n, i := range l {
		if n > 0 {
			b.WriteString(" ")
		}
		b.WriteString(instr.Text(i))
		if i.Body != nil || i.Else != nil || i.HasElse {
			b.WriteString(" {" + texts(i.Body) + "}")
		}
		if i.Else != nil || i.HasElse {
			b.WriteString(fmt.Sprint(" {", texts(i.Else), "} ", i.HasElse))
		}
	}
	return b.String()
}

// isBody says what Body answers, and that Steps answers the same error.
func isBody(t *testing.T, x api.Ctx, f api.Func, want int, e api.Errno) {
	t.Helper()
	n, got := vmod.Body(x, f)
	if n != want || got != e {
		t.Errorf("Body(%d, %v, %s): %d, %d, not %d, %d", f.Type, f.Locals, texts(f.Body), n, got, want, e)
	}
	l, got := vmod.Steps(x, f)
	if got != e || e != api.OK && l != nil || e == api.OK && len(l) != vmod.Size(f.Body) {
		t.Errorf("Steps(%d, %v, %s): %v, %d, not %d", f.Type, f.Locals, texts(f.Body), l, got, e)
	}
}

// isExpr says what Expr answers.
func isExpr(t *testing.T, x api.Ctx, l []api.Instr, v api.ValType, globals, want int, e api.Errno) {
	t.Helper()
	if n, got := vmod.Expr(x, l, v, globals); n != want || got != e {
		t.Errorf("Expr(%s, %s, %d): %d, %d, not %d, %d", texts(l), types.Text(v), globals, n, got, want, e)
	}
}

// isModule says what Module answers.
func isModule(t *testing.T, m api.Module, want api.Fault, e api.Errno) {
	t.Helper()
	if f, got := vmod.Module(m); f != want || got != e {
		t.Errorf("%+v, %d, not %+v, %d", f, got, want, e)
	}
}

// indices are numbers at and above the first of which nothing is there.
func indices(first int) []uint32 {
	return []uint32{uint32(first), uint32(first) + 1, 1000, math.MaxInt32, math.MaxInt32 + 1, math.MaxUint32 - 1, math.MaxUint32}
}

// noTypes are numbers of types that are none, where so many are there.
func noTypes(count int) []int {
	return []int{-1, -2, -8, -100, math.MinInt32, math.MinInt, count, count + 1, math.MaxInt32, math.MaxUint32, math.MaxInt}
}

// noKinds are types that can't be: numbers of none, and packed ones, which only fields have.
func noKinds() []api.ValType {
	return append(vals("none, i8, i16"), api.ValType{Num: 8}, api.ValType{Num: -1}, api.ValType{Num: math.MaxInt, Heap: 3}, api.ValType{Num: math.MinInt, Null: true})
}

// noHeaps are types that can be, but speak of types that there aren't, where so many are there.
func noHeaps(count int) []api.ValType {
	var l []api.ValType
	for _, h := range []int{api.HNoExn - 1, -100, math.MinInt, count, count + 1, math.MaxInt} {
		l = append(l, ref(true, h), ref(false, h))
	}
	return l
}
