package vmod_test

import (
	"math"
	"math/rand"
	"slices"
	"testing"

	"ratchet/api"
	"ratchet/instr"
	"ratchet/opcode"
	"ratchet/stack"
	"ratchet/sub"
	"ratchet/types"
	"ratchet/vctl"
	"ratchet/vmod"
	"ratchet/vnum"
	"ratchet/vref"
)

// reading does what the chapter's words say of a body, by calls of itself.
type reading struct {
	x       api.Ctx
	c       *stack.Checker
	n       int
	consts  bool
	globals int
	heights []int
}

func isBlock(op int) bool { return slices.Contains([]int{0x02, 0x03, 0x04, 0x1f}, op) }

// odd tells whether there is a Body, an Else, HasElse where none may be.
func odd(i api.Instr) bool {
	return len(i.Body) > 0 && !isBlock(i.Op) || i.Op != 0x04 && (len(i.Else) > 0 || i.HasElse) || len(i.Else) > 0 && !i.HasElse
}

func (r *reading) list(l []api.Instr) api.Errno {
	for _, i := range l {
		if odd(i) {
			return api.ErrForm
		}
		if _, e := vref.Const(r.x, []api.Instr{i}, r.globals); r.consts && e != api.OK {
			return e
		}
		height := r.c.Height()
		if e := r.step(i); e != api.OK {
			return e
		}
		if !isBlock(i.Op) {
			r.heights = append(r.heights, height)
			r.n++
			continue
		}
		r.heights = append(r.heights, height)
		r.n++
		if e := r.list(i.Body); e != api.OK {
			return e
		}
		if i.HasElse {
			if e := vctl.Turn(r.c); e != api.OK {
				return e
			}
			if e := r.list(i.Else); e != api.OK {
				return e
			}
		}
		if e := vctl.Close(r.x, r.c); e != api.OK {
			return e
		}
	}
	return api.OK
}

func (r *reading) step(i api.Instr) api.Errno {
	if isBlock(i.Op) {
		return vctl.Open(r.x, r.c, i)
	}
	for _, e := range []api.Errno{vnum.Step(r.x, r.c, i), vctl.Step(r.x, r.c, i), vref.Step(r.x, r.c, i)} {
		if e != api.ErrNone {
			return e
		}
	}
	return api.ErrForm
}

func (r *reading) whole(l []api.Instr) (int, api.Errno) {
	e := r.list(l)
	if e == api.OK {
		e = vctl.Close(r.x, r.c)
	}
	if e == api.OK {
		return 0, e
	}
	return r.n, e
}

func wantBody(x api.Ctx, f api.Func) (int, []int, api.Errno) {
	params, results, e := vctl.FuncType(x, f.Type)
	if e != api.OK {
		return 0, nil, e
	}
	var locals []api.ValType
	for _, l := range f.Locals {
		locals = append(locals, slices.Repeat([]api.ValType{l.Type}, int(l.Count))...)
	}
	for _, v := range locals {
		if v.Num < 1 || v.Num > 5 {
			return 0, nil, api.ErrForm
		}
	}
	for _, v := range locals {
		if v.Num == 5 && (v.Heap < -12 || v.Heap >= types.Count(x.Types)) {
			return 0, nil, api.ErrIndex
		}
	}
	r := &reading{x: x, c: stack.New(x.Types, params, locals, results)}
	n, e := r.whole(f.Body)
	if e != api.OK {
		return n, nil, e
	}
	return 0, r.heights, e
}

func wantExpr(x api.Ctx, l []api.Instr, v api.ValType, globals int) (int, api.Errno) {
	r := &reading{x: x, c: stack.New(x.Types, nil, nil, []api.ValType{v}), consts: true, globals: globals}
	return r.whole(l)
}

// chooser makes bodies, most of which may be.
type chooser struct {
	*rand.Rand
	x    api.Ctx
	pool []api.Instr
}

func newChooser(seed int64) *chooser {
	c := &chooser{Rand: rand.New(rand.NewSource(seed)), x: context()}
	for _, op := range instr.Ops() {
		if !isBlock(op) && op != opcode.Else && op != opcode.End {
			c.pool = append(c.pool, plain(op))
		}
	}
	// Those that give something more often than those that take much.
	for range 12 {
		c.pool = append(c.pool, i32(1), i64(1), plain(opcode.F32Const), drop, add, get(0), get(5), x(opcode.LocalGet, 0), x(opcode.StructNewDefault, aStruct), null("4"), fn(1), x(opcode.BrIf, 0), x(opcode.LocalSet, 0), x(opcode.LocalTee, 1))
	}
	return c
}

func (c *chooser) kind() api.ValType {
	l := vals("i32, i32, i64, f32, (ref null 4), (ref 4), (ref func), (ref null any), (ref 6)")
	return l[c.Intn(len(l))]
}

// one is some instruction that is no block.
func (c *chooser) one() api.Instr {
	i := c.pool[c.Intn(len(c.pool))]
	if i.X == 0 && i.N == 0 && c.Intn(2) == 0 {
		i.X, i.Y, i.N = uint32(c.Intn(5)), uint32(c.Intn(3)), uint64(c.Intn(3))
	}
	if i.Types == nil {
		i.Types = []api.ValType{c.kind(), c.kind()}[:1+c.Intn(2)]
	}
	if len(i.Labels) == 0 && i.Op == opcode.BrTable {
		i.Labels = []uint32{uint32(c.Intn(3))}
	}
	return i
}

// head is a block's beginning.
func (c *chooser) head() api.Instr {
	i := api.Instr{Op: []int{0x02, 0x02, 0x03, 0x04, 0x04, 0x1f}[c.Intn(6)], Block: api.Block{Type: -1}}
	switch c.Intn(3) {
	case 0:
		i.Block.Result = c.kind()
	case 1:
		i.Block.Type = []int{nothing, toI32, ofI32, ofBoth}[c.Intn(4)]
	}
	if i.Op == 0x1f && c.Intn(2) == 0 {
		i.Catches = []api.Catch{{Kind: c.Intn(4), Tag: uint32(c.Intn(tags)), Label: uint32(c.Intn(3))}}
	}
	return i
}

// part is what may stand up to an end, as a checker goes along; what is not right for the end is left out by unreachable.
func (c *chooser) part(k *stack.Checker, deep, most int) []api.Instr {
	var l []api.Instr
	for range c.Intn(most + 1) {
		if deep > 0 && c.Intn(4) == 0 {
			if i := c.head(); vctl.Open(c.x, k, i) == api.OK {
				l = append(l, c.inside(k, i, deep-1, most))
			}
			continue
		}
		for range 20 {
			i := c.one()
			if (&reading{x: c.x, c: k}).step(i) == api.OK {
				l = append(l, i)
				break
			}
		}
	}
	return l
}

// end lets a part end, whatever it has come to.
func (c *chooser) end(k *stack.Checker, l []api.Instr, end func() api.Errno) []api.Instr {
	if end() != api.OK {
		k.Unreachable()
		l = append(l, unreachable)
		end()
	}
	return l
}

// inside fills a block that has been opened.
func (c *chooser) inside(k *stack.Checker, i api.Instr, deep, most int) api.Instr {
	_, in, out, _ := k.Last()
	i.Body = c.part(k, deep, most)
	if i.Op == opcode.If && (c.Intn(2) == 0 || !sub.Vals(c.x.Types, in, out)) {
		i.HasElse = true
		i.Body = c.end(k, i.Body, func() api.Errno { return vctl.Turn(k) })
		i.Else = c.end(k, c.part(k, deep, most), func() api.Errno { return vctl.Close(c.x, k) })
		return i
	}
	i.Body = c.end(k, i.Body, func() api.Errno { return vctl.Close(c.x, k) })
	return i
}

// function is one that may be.
func (c *chooser) function() api.Func {
	f := api.Func{Type: []int{nothing, toI32, ofI32, ofBoth, selfFn}[c.Intn(5)], Locals: []api.Local{{Count: uint32(c.Intn(3)), Type: c.kind()}, {Count: 1, Type: val("i64")}}}
	params, results, _ := vctl.FuncType(c.x, f.Type)
	locals := append(slices.Repeat([]api.ValType{f.Locals[0].Type}, int(f.Locals[0].Count)), val("i64"))
	k := stack.New(c.x.Types, params, locals, results)
	f.Body = c.part(k, 4, 8)
	f.Body = c.end(k, f.Body, func() api.Errno { return vctl.Close(c.x, k) })
	return f
}

// spoil changes something somewhere in a list.
func (c *chooser) spoil(l []api.Instr) []api.Instr {
	l = slices.Clone(l)
	if len(l) == 0 {
		return append(l, c.one())
	}
	n := c.Intn(len(l))
	i := &l[n]
	if isBlock(i.Op) && c.Intn(4) > 0 {
		if i.HasElse && c.Intn(2) == 0 {
			i.Else = c.spoil(i.Else)
		} else {
			i.Body = c.spoil(i.Body)
		}
		return l
	}
	switch c.Intn(8) {
	case 0:
		return slices.Delete(l, n, n+1)
	case 1:
		return slices.Insert(l, n, c.one())
	case 2:
		l[n] = c.one()
	case 3:
		i.X, i.Y = c.Uint32()>>c.Intn(33), uint32(c.Intn(12))
	case 4:
		i.Op = []int{0x05, 0x0b, 0x06, -1, 0x02, 0x03, 0x04, 0x1f, 0x01}[c.Intn(9)]
	case 5:
		i.HasElse = !i.HasElse
	case 6:
		i.Else = list(nop)
	case 7:
		i.Body = list(nop, drop)
	}
	return l
}

// again says that Body and Steps answer what the chapter's words come to.
func again(t *testing.T, x api.Ctx, f api.Func) (int, api.Errno) {
	t.Helper()
	want, heights, e := wantBody(x, f)
	isBody(t, x, f, want, e)
	if l, _ := vmod.Steps(x, f); !slices.Equal(l, heights) {
		t.Errorf("Steps of %s: %v, not %v", texts(f.Body), l, heights)
	}
	return want, e
}

func TestVM2Rows(t *testing.T) {
	c, seen, great := newChooser(3), map[api.Errno]int{}, 0
	for range 4000 {
		f := c.function()
		if n, e := again(t, c.x, f); e != api.OK {
			t.Fatalf("%s should be: %d at %d", texts(f.Body), e, n)
		}
		great = max(great, vmod.Size(f.Body))
		for range 4 {
			f.Body = c.spoil(f.Body)
			_, e := again(t, c.x, f)
			seen[e]++
		}
		f.Type = c.Intn(12) - 1
		f.Locals = []api.Local{{Count: uint32(c.Intn(2)), Type: api.ValType{Num: c.Intn(9) - 1, Heap: c.Intn(24) - 13}}, {Count: 1, Type: val("i64")}}
		again(t, c.x, f)
	}
	for _, e := range []api.Errno{api.OK, api.ErrForm, api.ErrUnder, api.ErrType, api.ErrLeft, api.ErrBlock, api.ErrUnset, api.ErrIndex, api.ErrKind, api.ErrArity} {
		if seen[e] < 10 {
			t.Errorf("%d bodies of error %d", seen[e], e)
		}
	}
	if great < 60 {
		t.Errorf("none has more than %d instructions", great)
	}
}

func TestVM3Rows(t *testing.T) {
	c, seen := newChooser(5), map[api.Errno]int{}
	likely := list(i32(1), i32(2), i64(3), add, plain(opcode.I64Mul), get(0), get(1), get(4), get(9), fn(1), fn(4), null("4"), x(opcode.StructNewDefault, aStruct), x(opcode.StructNew, aStruct), x(opcode.ArrayNew, anArray), plain(opcode.RefI31), plain(opcode.ExternConvertAny), nop)
	for range 30000 {
		var l []api.Instr
		for range c.Intn(5) {
			l = append(l, likely[c.Intn(len(likely))])
		}
		if c.Intn(6) == 0 {
			l = c.spoil(l)
		}
		v, globals := c.kind(), c.Intn(12)-1
		want, e := wantExpr(c.x, l, v, globals)
		isExpr(t, c.x, l, v, globals, want, e)
		seen[e]++
	}
	for _, e := range []api.Errno{api.OK, api.ErrForm, api.ErrUnder, api.ErrType, api.ErrLeft, api.ErrIndex, api.ErrConst, api.ErrMutable, api.ErrRef} {
		if seen[e] < 30 {
			t.Errorf("%d expressions of error %d", seen[e], e)
		}
	}
}

// asking does what the chapter's table says of a module: all faults that there are, of which the first is told.
type asking struct {
	m      api.Module
	x      api.Ctx
	faults []found
}

type found struct {
	place api.Fault
	e     api.Errno
}

func (a *asking) tell(what, n, instr int, e api.Errno) {
	if e != api.OK {
		a.faults = append(a.faults, found{api.Fault{What: what, At: n, Instr: instr}, e})
	}
}

// first is the first of some errors that is one.
func first(l ...api.Errno) api.Errno {
	for _, e := range l {
		if e != api.OK {
			return e
		}
	}
	return api.OK
}

func unless(ok bool, e api.Errno) api.Errno {
	if ok {
		return api.OK
	}
	return e
}

func (a *asking) known(v api.ValType) api.Errno {
	return unless(v.Num != 5 || -12 <= v.Heap && v.Heap < types.Count(a.m.Types), api.ErrIndex)
}

func limitsMay(l api.Limits, top uint64) api.Errno {
	if l.HasMax {
		return unless(l.Min <= l.Max && l.Max <= top, api.ErrLimits)
	}
	return unless(l.Min <= top, api.ErrLimits)
}

func memoryMay(l api.Limits) api.Errno {
	return limitsMay(l, map[bool]uint64{false: 65536, true: 281474976710656}[l.Wide])
}

func (a *asking) tableMay(t api.TableType) api.Errno {
	top := map[bool]uint64{false: math.MaxUint32, true: math.MaxUint64}[t.Limits.Wide]
	return first(unless(t.Elem.Num == 5, api.ErrForm), limitsMay(t.Limits, top), a.known(t.Elem))
}

func (a *asking) globalMay(g api.GlobalType) api.Errno {
	return first(unless(1 <= g.Type.Num && g.Type.Num <= 5, api.ErrForm), a.known(g.Type))
}

func (a *asking) tagMay(n int) api.Errno {
	_, out, e := vctl.FuncType(a.x, n)
	return first(e, unless(len(out) == 0, api.ErrTag))
}

func (a *asking) externMay(x api.Extern) api.Errno {
	if x.Kind < 0 || x.Kind > 4 {
		return api.ErrForm
	}
	_, _, e := vctl.FuncType(a.x, x.Type)
	return []api.Errno{e, a.tableMay(x.Table), memoryMay(x.Memory), a.globalMay(x.Global), a.tagMay(x.Type)}[x.Kind]
}

func (a *asking) types() {
	n, e := sub.Decl(a.m.Types)
	a.tell(1, n, -1, e)
	n = 0
	for _, r := range a.m.Types {
		for _, s := range r.Types {
			c := s.Comp
			ok := c.Kind == 1 || c.Kind == 2 || c.Kind == 3 && len(c.Fields) == 1
			for _, v := range slices.Concat(c.Params, c.Results) {
				ok = ok && (c.Kind != 1 || 1 <= v.Num && v.Num <= 5)
			}
			for _, f := range c.Fields {
				ok = ok && (c.Kind == 1 || 1 <= f.Type.Num && f.Type.Num <= 7)
			}
			a.tell(1, n, -1, unless(ok, api.ErrForm))
			n++
		}
	}
}

// expr asks for an expression whose numbers are counted on behind others.
func (a *asking) expr(what, n, others int, l []api.Instr, v api.ValType, globals int) {
	at, e := wantExpr(a.x, l, v, globals)
	a.tell(what, n, others+at, e)
}

func (a *asking) globalsAndTables() {
	imported := len(a.x.Globals) - len(a.m.Globals)
	for n, t := range a.m.Tables {
		a.tell(4, n, -1, a.tableMay(t.Type))
		if t.HasInit {
			a.expr(4, n, 0, t.Init, t.Type.Elem, imported)
		} else {
			a.tell(4, n, -1, unless(t.Type.Elem.Num != 5 || t.Type.Elem.Null, api.ErrInit))
		}
	}
	for n, l := range a.m.Memories {
		a.tell(5, n, -1, memoryMay(l))
	}
	for n, tag := range a.m.Tags {
		a.tell(13, n, -1, a.tagMay(tag))
	}
	for n, g := range a.m.Globals {
		a.tell(6, n, -1, a.globalMay(g.Type))
		a.expr(6, n, 0, g.Init, g.Type.Type, imported+n)
	}
}

func (a *asking) exports() {
	counts := []int{len(a.x.Funcs), len(a.x.Tables), len(a.x.Memories), len(a.x.Globals), len(a.x.Tags)}
	for n, x := range a.m.Exports {
		a.tell(7, n, -1, unless(0 <= x.Kind && x.Kind < 5 && int(x.At) < counts[x.Kind], api.ErrIndex))
		for _, y := range a.m.Exports[:n] {
			a.tell(7, n, -1, unless(x.Name != y.Name, api.ErrDouble))
		}
	}
	if !a.m.HasStart {
		return
	}
	if int(a.m.Start) >= counts[0] {
		a.tell(8, 0, -1, api.ErrIndex)
		return
	}
	in, out, _ := vctl.FuncType(a.x, a.x.Funcs[a.m.Start])
	a.tell(8, 0, -1, unless(len(in)+len(out) == 0, api.ErrStart))
}

func addr(l api.Limits) api.ValType { return val(map[bool]string{false: "i32", true: "i64"}[l.Wide]) }

func (a *asking) elem(n int, s api.Elem) {
	a.tell(9, n, -1, first(unless(s.Type.Num == 5, api.ErrForm), a.known(s.Type)))
	others := 0
	if s.Mode == 1 {
		if int(s.Table) >= len(a.x.Tables) {
			a.tell(9, n, -1, api.ErrIndex)
			return
		}
		t := a.x.Tables[s.Table]
		a.tell(9, n, -1, unless(sub.Val(a.m.Types, s.Type, t.Elem), api.ErrType))
		a.expr(9, n, 0, s.Offset, addr(t.Limits), len(a.x.Globals))
		others = vmod.Size(s.Offset)
	}
	for _, l := range s.Init {
		a.expr(9, n, others, l, s.Type, len(a.x.Globals))
		others += vmod.Size(l)
	}
}

// wantModule is the first fault of a module by the chapter's table.
func wantModule(m api.Module) (api.Fault, api.Errno) {
	a := &asking{m: m, x: vmod.Context(m)}
	a.types()
	for n, i := range m.Imports {
		a.tell(2, n, -1, a.externMay(i.Extern))
	}
	for n, f := range m.Funcs {
		_, _, e := vctl.FuncType(a.x, f.Type)
		a.tell(3, n, -1, e)
	}
	a.globalsAndTables()
	a.exports()
	for n, s := range m.Elems {
		a.elem(n, s)
	}
	for n, f := range m.Funcs {
		at, _, e := wantBody(a.x, f)
		a.tell(10, n, at, e)
	}
	for n, s := range m.Datas {
		if s.Mode == 1 && int(s.Memory) >= len(a.x.Memories) {
			a.tell(11, n, -1, api.ErrIndex)
		} else if s.Mode == 1 {
			a.expr(11, n, 0, s.Offset, addr(a.x.Memories[s.Memory]), len(a.x.Globals))
		}
	}
	if len(a.faults) == 0 {
		return api.Fault{}, api.OK
	}
	return a.faults[0].place, a.faults[0].e
}
