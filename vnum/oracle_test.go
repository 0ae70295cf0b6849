package vnum_test

import (
	"slices"
	"strings"

	"ratchet/api"
	"ratchet/instr"
	"ratchet/stack"
	"ratchet/sub"
	"ratchet/types"
)

// oracle does what the chapter's table says, word by word, on a checker that may be thrown away: at the first error it gives up by a panic with it, whatever has been done till then.
type oracle struct {
	x api.Ctx
	c *stack.Checker
	i api.Instr
}

// expect tells the error that the chapter asks for; behind one the checker is spoilt.
func expect(x api.Ctx, c *stack.Checker, i api.Instr) (e api.Errno) {
	defer func() {
		if r := recover(); r != nil {
			e = r.(api.Errno)
		}
	}()
	o := oracle{x, c, i}
	o.step(instr.Name(i.Op))
	return api.OK
}

// ask gives up with an error.
func ask(e api.Errno) {
	if e != api.OK {
		panic(e)
	}
}

// that gives up with an error where something does not hold.
func that(holds bool, e api.Errno) {
	if !holds {
		panic(e)
	}
}

// got gives up with an error, ErrIndex in the place of ErrArg; or tells the type that was answered.
func got(v api.ValType, e api.Errno) api.ValType {
	that(e != api.ErrArg, api.ErrIndex)
	ask(e)
	return v
}

// named is what a number names in a list.
func named[T any](l []T, n uint32) T {
	that(uint64(n) < uint64(len(l)), api.ErrIndex)
	return l[n]
}

// addr is an address's type.
func addr(l api.Limits) api.ValType {
	if l.Wide {
		return val("i64")
	}
	return val("i32")
}

// least is a length's type.
func least(a, b api.Limits) api.ValType {
	if a.Wide && b.Wide {
		return val("i64")
	}
	return val("i32")
}

func (o oracle) pops(l ...api.ValType) {
	for _, v := range slices.Backward(l) {
		got(o.c.PopType(v))
	}
}

func (o oracle) push(v api.ValType) { ask(o.c.Push(v)) }

func (o oracle) step(name string) {
	part, _, _ := strings.Cut(name, ".")
	switch {
	case part == "drop" || strings.HasPrefix(name, "select"):
		o.operands(name)
	case part == "local" || part == "global":
		o.variables(name)
	case strings.Contains(name, ".load") || strings.Contains(name, ".store"):
		o.access(name)
	case part == "memory" || part == "data":
		o.memories(name)
	case part == "table" || part == "elem":
		o.tables(name)
	default:
		in, out, e := instr.Sig(o.i.Op)
		ask(e)
		o.pops(in...)
		for _, v := range out {
			o.push(v)
		}
	}
}

func (o oracle) operands(name string) {
	switch name {
	case "drop":
		got(o.c.Pop())
	case "select":
		o.pops(val("i32"))
		b := got(o.c.Pop())
		a := got(o.c.Pop())
		that(a.Num != api.TRef && b.Num != api.TRef, api.ErrSelect)
		that(a.Num == b.Num || a.Num == api.TNone || b.Num == api.TNone, api.ErrSelect)
		if a.Num == api.TNone {
			a = b
		}
		o.push(a)
	case "select_t":
		that(len(o.i.Types) == 1, api.ErrArity)
		v := o.i.Types[0]
		that(v.Num != api.TRef || v.Heap >= -12 && v.Heap < types.Count(o.x.Types), api.ErrIndex)
		o.pops(v, v, val("i32"))
		o.push(v)
	}
}

func (o oracle) variables(name string) {
	switch name {
	case "local.get":
		o.push(got(o.c.Get(o.i.X)))
	case "local.set":
		o.pops(got(o.c.Local(o.i.X)))
		got(o.c.Set(o.i.X))
	case "local.tee":
		v := got(o.c.Local(o.i.X))
		o.pops(v)
		o.push(v)
		got(o.c.Set(o.i.X))
	case "global.get":
		o.push(named(o.x.Globals, o.i.X).Type)
	case "global.set":
		g := named(o.x.Globals, o.i.X)
		that(g.Mut, api.ErrMut)
		o.pops(g.Type)
	}
}

func (o oracle) access(name string) {
	m := named(o.x.Memories, o.i.Mem.Mem)
	v, bytes, _, _, _ := instr.Width(o.i.Op)
	that(o.i.Mem.Align < 10 && 1<<o.i.Mem.Align <= bytes, api.ErrAlign)
	that(m.Wide || o.i.Mem.Offset < 1<<32, api.ErrOffset)
	if strings.Contains(name, "store") {
		o.pops(addr(m), v)
	} else {
		o.pops(addr(m))
		o.push(v)
	}
}

func (o oracle) memories(name string) {
	i32 := val("i32")
	switch name {
	case "memory.size":
		o.push(addr(named(o.x.Memories, o.i.X)))
	case "memory.grow":
		m := named(o.x.Memories, o.i.X)
		o.pops(addr(m))
		o.push(addr(m))
	case "memory.fill":
		m := named(o.x.Memories, o.i.X)
		o.pops(addr(m), i32, addr(m))
	case "memory.copy":
		m := named(o.x.Memories, o.i.X)
		n := named(o.x.Memories, o.i.Y)
		o.pops(addr(m), addr(n), least(m, n))
	case "memory.init":
		that(int64(o.i.X) < int64(o.x.Datas), api.ErrIndex)
		m := named(o.x.Memories, o.i.Y)
		o.pops(addr(m), i32, i32)
	case "data.drop":
		that(int64(o.i.X) < int64(o.x.Datas), api.ErrIndex)
	}
}

func (o oracle) tables(name string) {
	i32 := val("i32")
	switch name {
	case "elem.drop":
		named(o.x.Elems, o.i.X)
		return
	case "table.init":
		v := named(o.x.Elems, o.i.X)
		u := named(o.x.Tables, o.i.Y)
		that(sub.Val(o.x.Types, v, u.Elem), api.ErrType)
		o.pops(addr(u.Limits), i32, i32)
		return
	}
	t := named(o.x.Tables, o.i.X)
	a := addr(t.Limits)
	switch name {
	case "table.get":
		o.pops(a)
		o.push(t.Elem)
	case "table.set":
		o.pops(a, t.Elem)
	case "table.size":
		o.push(a)
	case "table.grow":
		o.pops(t.Elem, a)
		o.push(a)
	case "table.fill":
		o.pops(a, t.Elem, a)
	case "table.copy":
		u := named(o.x.Tables, o.i.Y)
		that(sub.Val(o.x.Types, u.Elem, t.Elem), api.ErrType)
		o.pops(a, addr(u.Limits), least(t.Limits, u.Limits))
	}
}
