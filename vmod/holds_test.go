package vmod_test

import (
	"fmt"
	"math"
	"math/rand"
	"slices"
	"strings"
	"testing"

	"ratchet/api"
	"ratchet/encode"
	"ratchet/instr"
	"ratchet/module"
	"ratchet/opcode"
	"ratchet/vmod"
)

// valid are modules that may be: the whole one, and such as come of it by changes.
func valid(c *chooser, many int) []api.Module {
	l := []api.Module{whole(), {}}
	for len(l) < many {
		m := whole()
		for range c.Intn(4) {
			c.change(&m)
		}
		if _, e := vmod.Module(m); e == api.OK {
			l = append(l, m)
		}
	}
	return l
}

// Custom sections, names and Explicit have no part in what is told.
func TestVM5Names(t *testing.T) {
	c := newChooser(11)
	for range 3000 {
		m := whole()
		for range c.Intn(4) {
			c.change(&m)
		}
		want, e := vmod.Module(m)
		n := m
		n.Customs = []api.Custom{{Name: "name", Bytes: []byte{0, 1, 2}}, {Name: strings.Repeat("\xff", 9), After: 99}}
		n.HasCount = !n.HasCount
		n.Types, n.Imports, n.Exports = slices.Clone(n.Types), slices.Clone(n.Imports), slices.Clone(n.Exports)
		for g := range n.Types {
			n.Types[g].Explicit = !n.Types[g].Explicit
		}
		for i := range n.Imports {
			n.Imports[i].Module, n.Imports[i].Name = "\xff", ""
		}
		for i := range n.Exports {
			n.Exports[i].Name = "x" + n.Exports[i].Name + "\x80"
		}
		isModule(t, n, want, e)
	}
}

// A valid module stays valid with a function more, an export of a new name, a passive segment.
func TestVM5More(t *testing.T) {
	c := newChooser(13)
	for _, m := range valid(c, 400) {
		isModule(t, m, api.Fault{}, api.OK)
		x, n := vmod.Context(m), m
		for range 3 {
			f := c.function()
			if _, e := vmod.Body(x, f); e == api.OK {
				n.Funcs = append(slices.Clone(n.Funcs), f)
			}
		}
		isModule(t, n, api.Fault{}, api.OK)
		for kind, count := range []int{len(x.Funcs), len(x.Tables), len(x.Memories), len(x.Globals), len(x.Tags)} {
			if count > 0 {
				n.Exports = append(slices.Clone(n.Exports), api.Export{Name: fmt.Sprint("new", kind), Kind: kind, At: uint32(c.Intn(count))})
			}
		}
		isModule(t, n, api.Fault{}, api.OK)
		n.Datas = append(slices.Clone(n.Datas), api.Data{Init: []byte{1}})
		n.Elems = append(slices.Clone(n.Elems), api.Elem{Type: val("(ref null func)"), Init: [][]api.Instr{list(null("nofunc"))}})
		isModule(t, n, api.Fault{}, api.OK)
	}
}

// right is an instruction of each opcode whose indices and immediates are right in the module below.
func right(op int) api.Instr {
	i := api.Instr{Op: op, Types: vals("(ref null any), (ref i31)"), Block: api.Block{Type: -1}}
	switch op {
	case opcode.SelectT:
		i.Types = vals("i64")
	case opcode.Throw:
		i.X = 1
	case opcode.CallIndirect, opcode.ReturnCallIndirect, opcode.Call, opcode.ReturnCall:
		i.X = 0
	case opcode.GlobalSet:
		i.X = 1
	case opcode.StructNew, opcode.StructNewDefault, opcode.StructSet, opcode.StructGet:
		i.X, i.Y = 1, 1
	case opcode.StructGetS, opcode.StructGetU:
		i.X, i.Y = 1, 0
	case opcode.ArrayGet:
		i.X = 3
	case opcode.ArrayNewElem, opcode.ArrayInitElem:
		i.X = 3
	}
	if op >= opcode.ArrayNew && op <= opcode.ArrayInitData && i.X == 0 {
		i.X = 2
	}
	if op == opcode.ArrayCopy {
		i.Y = 2
	}
	if op == opcode.BrOnCast || op == opcode.BrOnCastFail || op == opcode.BrOnNonNull {
		i.X = 1
	}
	return i
}

// ends are rows behind which nothing is reached.
func ends() map[string][]api.Instr {
	return map[string][]api.Instr{
		"unreachable":          list(unreachable),
		"br":                   list(x(opcode.Br, 0)),
		"br_table":             list(i32(1), plain(opcode.BrTable)),
		"return":               list(plain(opcode.Return)),
		"throw":                list(x(opcode.Throw, 1)),
		"throw_ref":            list(null("exn"), plain(opcode.ThrowRef)),
		"return_call":          list(x(opcode.ReturnCall, 0)),
		"return_call_indirect": list(i32(0), plain(opcode.ReturnCallIndirect)),
		"return_call_ref":      list(fn(0), plain(opcode.ReturnCallRef)),
	}
}

// Behind an instruction behind which nothing is reached any instruction of right indices may stand, whatever it takes.
func TestVM5NotReached(t *testing.T) {
	m := api.Module{
		Types:    read("(func)", "(struct (field (mut i8)) (field (mut i64)))", "(array (mut i8))", "(array (mut (ref null func)))"),
		Funcs:    []api.Func{{}},
		Tables:   []api.Table{{Type: tableOf("(ref null func)", api.Limits{})}},
		Memories: []api.Limits{{}},
		Tags:     []int{0, 0},
		Globals:  []api.Global{{Type: still("i32"), Init: list(i32(1))}, {Type: mut("i32"), Init: list(i32(1))}},
		Exports:  []api.Export{{}},
		Elems:    []api.Elem{{Type: val("(ref func)")}},
		Datas:    []api.Data{{}},
	}
	for name, end := range ends() {
		for _, op := range instr.Ops() {
			if op == opcode.Else || op == opcode.End {
				continue
			}
			for _, behind := range [][]api.Instr{nil, list(nop), list(drop, drop), list(i32(1), drop)} {
				// What the instruction gives is gone again behind unreachable. The label 1 takes a reference, as some ask for.
				l := slices.Concat(list(i64(5)), end, behind, list(right(op), unreachable))
				l = list(block(opcode.Block, "(ref null any)", block(opcode.Block, "", l...), null("any")), drop)
				m.Funcs = []api.Func{{Body: l, Locals: []api.Local{run(1, "i32")}}}
				if f, e := vmod.Module(m); e != api.OK {
					t.Errorf("%s behind %s: %v, %d: %s", instr.Name(op), name, f, e, texts(l))
				}
			}
		}
	}
}

// What is written and read again is as valid as it was.
func TestVM5ReadAgain(t *testing.T) {
	c := newChooser(17)
	many := 0
	for range 2000 {
		m := whole()
		for range c.Intn(3) {
			c.change(&m)
		}
		b, e := encode.Write(m)
		if e != api.OK {
			continue
		}
		n, _, e := module.Read(b)
		if e != api.OK {
			continue
		}
		many++
		want, e := vmod.Module(m)
		isModule(t, n, want, e)
		if got := vmod.Context(n); told(got.Refs, got.Funcs, got.Elems) != told(vmod.Context(m).Refs, vmod.Context(m).Funcs, vmod.Context(m).Elems) {
			t.Errorf("another context: %+v", got)
		}
	}
	if many < 500 {
		t.Errorf("only %d modules are read again", many)
	}
}

// What is handed in is not changed.
func TestHandedIn(t *testing.T) {
	c := newChooser(19)
	for range 300 {
		m := whole()
		for range c.Intn(4) {
			c.change(&m)
		}
		before := told(m)
		vmod.Module(m)
		x := vmod.Context(m)
		context := told(x)
		for _, f := range m.Funcs {
			vmod.Body(x, f)
			vmod.Steps(x, f)
			vmod.Size(f.Body)
		}
		for _, g := range m.Globals {
			vmod.Expr(x, g.Init, g.Type.Type, 99)
		}
		if told(m) != before || told(x) != context {
			t.Fatalf("changed: %s", before)
		}
	}
}

// The lists that a context tells are its own, but for those that nobody changes.
func TestContextsOwn(t *testing.T) {
	m := whole()
	x := vmod.Context(m)
	before := told(m)
	for n := range x.Funcs {
		x.Funcs[n] = -1
	}
	clear(x.Tables)
	clear(x.Memories)
	clear(x.Globals)
	clear(x.Tags)
	clear(x.Elems)
	clear(x.Refs)
	if told(m) != before {
		t.Error("a change of what was answered changes the module")
	}
	l, _ := vmod.Steps(context(), m.Funcs[0])
	clear(l)
	if told(m) != before {
		t.Error("a change of the steps changes the module")
	}
}

// anyInstr is an instruction of anything in its fields.
func anyInstr(r *rand.Rand, deep int) api.Instr {
	ops := instr.Ops()
	v := func() api.ValType {
		return api.ValType{Num: r.Intn(10) - 1, Null: r.Intn(2) == 0, Heap: r.Intn(30) - 16}
	}
	i := api.Instr{Op: ops[r.Intn(len(ops))], X: uint32(r.Intn(6)), Y: uint32(r.Intn(6)), N: uint64(r.Intn(4)), HasElse: r.Intn(4) == 0}
	if r.Intn(3) == 0 {
		i.Op = []int{0x02, 0x03, 0x04, 0x1f, -1, 0x05}[r.Intn(6)]
	}
	i.Block = api.Block{Type: r.Intn(14) - 2, Result: v()}
	i.Types, i.Labels = []api.ValType{v(), v()}[:r.Intn(3)], []uint32{uint32(r.Intn(4))}[:r.Intn(2)]
	i.Catches = []api.Catch{{Kind: r.Intn(6) - 1, Tag: uint32(r.Intn(5)), Label: uint32(r.Intn(4))}}[:r.Intn(2)]
	if deep > 0 && r.Intn(2) == 0 {
		i.Body = anyList(r, deep-1)
	}
	if deep > 0 && r.Intn(4) == 0 {
		i.Else = anyList(r, deep-1)
	}
	return i
}

func anyList(r *rand.Rand, deep int) []api.Instr {
	var l []api.Instr
	for range r.Intn(4) {
		l = append(l, anyInstr(r, deep))
	}
	return l
}

// An answer comes whatever a context, a function, a module are, and it is a fault of one form or none.
func TestAnything(t *testing.T) {
	r := rand.New(rand.NewSource(23))
	v := func() api.ValType {
		return api.ValType{Num: r.Intn(10) - 1, Null: r.Intn(2) == 0, Heap: r.Intn(30) - 16}
	}
	for range 2000 {
		var m api.Module
		for range r.Intn(4) {
			var s api.SubType
			s.Comp.Kind = r.Intn(5)
			s.Comp.Params, s.Comp.Results, s.Comp.Fields = []api.ValType{v()}[:r.Intn(2)], []api.ValType{v()}[:r.Intn(2)], []api.Field{{Type: v()}, {Mut: true}}[:r.Intn(3)]
			s.Supers = []int{r.Intn(6) - 2, math.MinInt}[:r.Intn(3)]
			m.Types = append(m.Types, api.RecType{Types: []api.SubType{s, s}[:r.Intn(3)]})
		}
		m.Imports = make([]api.Import, r.Intn(3))
		for n := range m.Imports {
			m.Imports[n].Extern = api.Extern{Kind: r.Intn(7) - 1, Type: r.Intn(5) - 1, Table: api.TableType{Elem: v()}, Global: api.GlobalType{Type: v()}}
		}
		m.Funcs = []api.Func{{Type: r.Intn(5) - 1, Body: anyList(r, 3), Locals: []api.Local{{Count: r.Uint32() >> r.Intn(32), Type: v()}}}}[:r.Intn(2)]
		m.Globals = []api.Global{{Type: api.GlobalType{Type: v()}, Init: anyList(r, 1)}}[:r.Intn(2)]
		m.Tables = []api.Table{{Type: api.TableType{Elem: v()}, Init: anyList(r, 1), HasInit: r.Intn(2) == 0}}[:r.Intn(2)]
		m.Elems = []api.Elem{{Type: v(), Mode: r.Intn(5) - 1, Offset: anyList(r, 1), Init: [][]api.Instr{anyList(r, 2), nil}}}[:r.Intn(2)]
		m.Datas = []api.Data{{Mode: r.Intn(5) - 1, Offset: anyList(r, 1)}}[:r.Intn(2)]
		m.Tags, m.HasStart = []int{r.Intn(4) - 1}[:r.Intn(2)], r.Intn(2) == 0
		if f, e := vmod.Module(m); e == api.OK && f != (api.Fault{}) || e != api.OK && (f.What < 1 || f.What > 13 || f.At < 0 || f.Instr < -1) {
			t.Fatalf("Module(%+v): %v, %d", m, f, e)
		}
		for _, x := range []api.Ctx{vmod.Context(m), {}, {Types: m.Types}, context()} {
			for _, f := range append(m.Funcs, api.Func{Body: anyList(r, 3)}) {
				if n, e := vmod.Body(x, f); n < 0 || n > vmod.Size(f.Body) || e == api.OK && n != 0 {
					t.Fatalf("Body(%+v, %+v): %d, %d", x, f, n, e)
				}
				vmod.Steps(x, f)
				vmod.Expr(x, f.Body, v(), r.Intn(5)-1)
			}
		}
	}
}

// Two calls know nothing of one another.
func TestTwice(t *testing.T) {
	m := whole()
	m.Funcs[5].Body = list(nop, drop)
	for range 3 {
		isModule(t, whole(), api.Fault{}, api.OK)
		isModule(t, m, in(10, 5, 1), api.ErrUnder)
	}
}
