package vctl_test

import (
	"math"
	"slices"
	"testing"

	"ratchet/api"
	"ratchet/instr"
	"ratchet/opcode"
	"ratchet/stack"
	"ratchet/sub"
	"ratchet/vctl"
)

// opens says that a block is entered from a place at which the operands lie that it takes: a new frame begins there with in.
func opens(t *testing.T, p place, on []api.ValType, i api.Instr, in, out []api.ValType) {
	t.Helper()
	c, d := p.with(on)(), p()
	if e := vctl.Open(context(), c, i); e != api.OK {
		t.Errorf("Open of %s on %v: %d", instr.Text(i), on, e)
		return
	}
	op, begins, ends, e := c.Last()
	if op != i.Op || told(begins) != told(in) || told(ends) != told(out) || e != api.OK || c.Depth() != d.Depth()+1 {
		t.Errorf("Open of %s: frame %d, %x: %v, %v", instr.Text(i), c.Depth(), op, begins, ends)
	}
	if want := slices.Concat(d.Operands(), in); told(c.Operands()) != told(want) || !c.Reached() {
		t.Errorf("Open of %s on %v: %v, reached %v", instr.Text(i), on, c.Operands(), c.Reached())
	}
	c.Unreachable()
	c.Leave()
	if got, want := drain(c), drain(d); got != want {
		t.Errorf("Open of %s: all around it should be\n%sand is\n%s", instr.Text(i), want, got)
	}
}

// blockOps are those that Open takes.
func blockOps() []int { return []int{opcode.Block, opcode.Loop, opcode.If, opcode.TryTable} }

// on are the operands on which a block with a beginning may stand.
func on(op int, in []api.ValType) []api.ValType {
	if op == opcode.If {
		return append(slices.Clone(in), val("i32"))
	}
	return in
}

func TestVC3Open(t *testing.T) {
	for _, p := range places() {
		for _, op := range blockOps() {
			for _, n := range []int{0, 1, 2, 3, 7, 10, 12, 13, 16} {
				in, out, _ := vctl.FuncType(context(), n)
				opens(t, p, on(op, in), block(op, n), in, out)
				opens(t, p.dead(), on(op, in), block(op, n), in, out)
			}
			for _, r := range []string{"i32", "f64", "(ref null func)", "(ref 4)", "(ref noexn)"} {
				opens(t, p, on(op, nil), one(op, r), nil, vals(r))
			}
			opens(t, p, on(op, nil), one(op, "none"), nil, nil)
			opens(t, p, on(op, nil), api.Instr{Op: op, Block: api.Block{Type: -7, Result: val("i64")}}, nil, vals("i64"))
		}
	}
}

// Operands that a block begins with become of its types, and those that are not there come to be where it is not reached.
func TestVC3OpenOperands(t *testing.T) {
	for _, op := range blockOps() {
		in := vals("i64, (ref null 4)")
		for _, l := range []string{"i64, (ref 5)", "none, (ref null none)", "i64, none"} {
			opens(t, nested, on(op, vals(l)), block(op, 17), in, vals("i64, (ref 5)"))
			opens(t, place(nested).dead(), on(op, vals(l)[1:]), block(op, 17), in, vals("i64, (ref 5)"))
			opens(t, place(nested).dead(), nil, block(op, 17), in, vals("i64, (ref 5)"))
		}
		for n := range 2 {
			for _, v := range kinds() {
				l := slices.Clone(in)
				l[n] = v
				if sub.Val(context().Types, v, in[n]) {
					opens(t, nested, on(op, l), block(op, 17), in, vals("i64, (ref 5)"))
					continue
				}
				refuses(t, place(nested).with(on(op, l)), context(), a(block(op, 17)), api.ErrType)
				refuses(t, place(nested).dead().with(on(op, l[n:])), context(), a(block(op, 17)), api.ErrType)
			}
		}
		for n := range 2 {
			refuses(t, place(nested).with(on(op, in[n+1:])), context(), a(block(op, 17)), api.ErrUnder)
		}
		refuses(t, nested, context(), a(block(op, 17)), api.ErrUnder)
	}
}

// An if takes an i32 ahead of all else.
func TestVC3OpenIf(t *testing.T) {
	for _, v := range kinds() {
		if v != val("i32") {
			refuses(t, place(nested).with([]api.ValType{val("i64"), v}), context(), a(one(opcode.If, "none")), api.ErrType)
			refuses(t, place(nested).dead().with([]api.ValType{v}), context(), a(block(opcode.If, 14)), api.ErrType)
		}
	}
	opens(t, nested, vals("none"), one(opcode.If, "i32"), nil, vals("i32"))
	opens(t, place(nested).dead(), nil, one(opcode.If, "i32"), nil, vals("i32"))
	opens(t, place(nested).dead(), vals("i32"), block(opcode.If, 3), vals("i32, i64"), vals("f32, f64"))
	refuses(t, nested, context(), a(one(opcode.If, "none")), api.ErrUnder)
	refuses(t, nested, context(), a(block(opcode.If, 14)), api.ErrUnder)
	refuses(t, place(nested).with(vals("i32")), context(), a(block(opcode.If, 14)), api.ErrUnder)
	refuses(t, place(nested).with(vals("f32, i32")), context(), a(block(opcode.If, 14)), api.ErrType)
	refuses(t, place(nested).with(vals("i64")), context(), a(block(opcode.If, 14)), api.ErrType)
	refuses(t, place(nested).dead().with(vals("f32, i32")), context(), a(block(opcode.If, 14)), api.ErrType)
}

// A block's type is asked ahead of its clauses, and of all operands.
func TestVC3OpenType(t *testing.T) {
	bad := []api.Catch{clause(9, 99, 99)}
	for _, op := range blockOps() {
		for n, want := range map[int]api.Errno{aStruct: api.ErrKind, anArray: api.ErrKind, noType: api.ErrIndex, noType + 1: api.ErrIndex, math.MaxUint32: api.ErrIndex, math.MaxInt: api.ErrIndex} {
			refusesAnyway(t, api.Instr{Op: op, Block: typed(n), Catches: bad}, want)
		}
		for _, r := range []string{"(ref 20)", "(ref null 99)"} {
			refusesAnyway(t, api.Instr{Op: op, Block: result(r), Catches: bad}, api.ErrIndex)
		}
		refusesAnyway(t, api.Instr{Op: op, Block: api.Block{Type: -1, Result: api.ValType{Num: api.TRef, Heap: api.HNoExn - 1}}}, api.ErrIndex)
	}
}

// Clauses count for nothing where there is no try_table; other fields never do.
func TestVC3OtherFields(t *testing.T) {
	for _, op := range blockOps() {
		i := block(op, 3)
		i.X, i.Y, i.N, i.Labels, i.Types, i.Mem = 77, 77, 77, []uint32{77}, vals("(ref 77)"), api.MemArg{Align: 77, Mem: 77}
		i.Body, i.Else, i.HasElse = []api.Instr{{Op: 77}}, []api.Instr{{Op: 77}}, true
		if op != opcode.TryTable {
			i.Catches = []api.Catch{clause(9, 99, 99)}
		}
		in, out := vals("i32, i64"), vals("f32, f64")
		opens(t, nested, on(op, in), i, in, out)
	}
}

// labelled is a place at which the label 0 takes types.
func labelled(texts string) place { return rowOf(texts).with(vals("i64")) }

// What a clause of each kind gives, with each of the context's tags that may be: params, and a reference to the exception behind them.
func TestVC3Clauses(t *testing.T) {
	for _, c := range []struct {
		k     api.Catch
		gives string
	}{
		{clause(0, 0, 0), "i64, (ref null exn)"}, {clause(0, 1, 0), ""}, {clause(0, 2, 0), "i32"}, {clause(0, 3, 0), "(ref 5), i64"}, {clause(0, 9, 0), ""},
		{clause(1, 0, 0), "i64, (ref null exn), (ref exn)"}, {clause(1, 1, 0), "(ref exn)"}, {clause(1, 2, 0), "i32, (ref exn)"}, {clause(1, 3, 0), "(ref 5), i64, (ref exn)"},
		{clause(2, 0, 0), ""}, {clause(2, noTag, 0), ""}, {clause(2, 4, 0), ""}, {clause(2, 5, 0), ""}, {clause(3, 0, 0), "(ref exn)"}, {clause(3, math.MaxUint32, 0), "(ref exn)"}, {clause(3, 4, 0), "(ref exn)"},
	} {
		gives := vals(c.gives)
		opens(t, labelled(c.gives), nil, try(result("i32"), c.k), nil, vals("i32"))
		opens(t, labelled(c.gives).dead(), nil, try(result("i32"), c.k, c.k), nil, vals("i32"))
		fails := func(takes []api.ValType) {
			t.Helper()
			p := place(func() *stack.Checker {
				d := fresh()
				d.Enter(opcode.Block, nil, takes)
				return d
			})
			refuses(t, p, context(), a(try(result("i32"), c.k)), api.ErrType)
			refuses(t, p.dead(), context(), a(try(result("i32"), c.k)), api.ErrType)
		}
		fails(append(slices.Clone(gives), val("i32")))
		fails(append(vals("i32"), gives...))
		for n := range gives {
			fails(slices.Delete(slices.Clone(gives), n, n+1))
			for _, v := range kinds() {
				takes := slices.Clone(gives)
				takes[n] = v
				if !sub.Val(context().Types, gives[n], v) {
					fails(takes)
				}
			}
		}
	}
}

// What a clause gives may be less than what its label takes; where the label takes less it is refused.
func TestVC3ClauseMatches(t *testing.T) {
	for _, texts := range []string{"(ref null 5), i64, (ref null exn)", "(ref 4), i64, (ref exn)", "(ref null any), i64, (ref exn)"} {
		opens(t, labelled(texts), nil, try(result("none"), clause(1, 3, 0)), nil, nil)
	}
	for _, texts := range []string{"(ref null func), i64, (ref exn)", "(ref none), i64, (ref exn)", "(ref 5), i64, (ref noexn)", "(ref 5), i64, (ref null noexn)", "(ref 5), i64, (ref null any)", "(ref 5), i32, (ref exn)"} {
		refuses(t, labelled(texts), context(), a(try(result("none"), clause(1, 3, 0))), api.ErrType)
	}
	refuses(t, labelled("i64, (ref exn)"), context(), a(try(result("none"), clause(0, 0, 0))), api.ErrType)
	opens(t, labelled("i64, (ref null exn)"), nil, try(result("none"), clause(0, 0, 0)), nil, nil)
	opens(t, labelled("(ref null exn)"), nil, try(result("none"), clause(3, 0, 0)), nil, nil)
}

// A clause's label is one of the blocks around the try_table, and it takes what a branch there takes.
func TestVC3ClauseLabels(t *testing.T) {
	for label, k := range map[uint32]api.Catch{toI32: clause(0, 2, toI32), toLoop: clause(0, 2, toLoop), toNothing: clause(2, 0, toNothing)} {
		opens(t, nested, nil, try(result("f32"), k), nil, vals("f32"))
		for other := range uint32(noLabel) {
			if k.Label = other; other != label && !(label != toNothing && (other == toI32 || other == toLoop)) {
				refuses(t, nested, context(), a(try(result("f32"), k)), api.ErrType)
			}
		}
	}
	for _, n := range indices(noLabel) {
		for kind := range 4 {
			refusesAnyway(t, try(result("none"), clause(kind, 1, n)), api.ErrBlock)
		}
	}
	// The block that is entered is none of them yet.
	refuses(t, fresh, context(), a(try(result("none"), clause(2, 0, 1))), api.ErrBlock)
	refuses(t, fresh, context(), a(try(result("none"), clause(2, 0, 0))), api.ErrType)
	opens(t, rowOf(""), nil, try(result("i32"), clause(2, 0, 0)), nil, vals("i32"))
}

func TestVC3ClauseKinds(t *testing.T) {
	for _, kind := range []int{4, 5, 99, -1, -2, 256, math.MaxInt, math.MinInt} {
		refusesAnyway(t, try(result("none"), clause(kind, 0, 0)), api.ErrForm)
		refusesAnyway(t, try(result("none"), clause(kind, 99, 99)), api.ErrForm)
	}
}

// Tags that there aren't, and those whose type is none or no function's, are told of the kinds that name one.
func TestVC3ClauseTags(t *testing.T) {
	for _, kind := range []int{0, 1} {
		for _, n := range indices(noTag) {
			refusesAnyway(t, try(result("none"), clause(kind, n, toNothing)), api.ErrIndex)
			refusesAnyway(t, try(result("none"), clause(kind, n, noLabel)), api.ErrIndex)
		}
		refusesAnyway(t, try(result("none"), clause(kind, 4, toNothing)), api.ErrKind)
		for n := uint32(5); n < 9; n++ {
			refusesAnyway(t, try(result("none"), clause(kind, n, toNothing)), api.ErrIndex)
		}
	}
	refuses(t, rowOf("(ref exn)"), api.Ctx{}, a(try(result("none"), clause(1, 0, 0))), api.ErrIndex)
	for _, kind := range []int{2, 3} {
		c := rowOf("", "(ref exn)")()
		must(t, vctl.Open(api.Ctx{}, c, try(result("none"), clause(kind, 0, uint32(kind-2)))))
	}
}

// The first clause that may not be is told, ahead of all operands; of one clause its kind, its tag, its label, its types.
func TestVC3ClauseOrder(t *testing.T) {
	good, form, tag, label, types := clause(2, 0, toNothing), clause(4, 0, toI32), clause(0, noTag, toI32), clause(2, 0, noLabel), clause(2, 0, toI32)
	for _, c := range []struct {
		l    []api.Catch
		want api.Errno
	}{
		{[]api.Catch{form, tag, label, types}, api.ErrForm}, {[]api.Catch{tag, form}, api.ErrIndex}, {[]api.Catch{label, form, tag}, api.ErrBlock}, {[]api.Catch{types, label, form}, api.ErrType},
		{[]api.Catch{good, good, types}, api.ErrType}, {[]api.Catch{good, label, types}, api.ErrBlock}, {[]api.Catch{good, tag}, api.ErrIndex}, {[]api.Catch{good, good, good, form}, api.ErrForm},
		{[]api.Catch{clause(0, noTag, noLabel)}, api.ErrIndex}, {[]api.Catch{clause(1, 2, noLabel)}, api.ErrBlock}, {[]api.Catch{clause(0, 4, noLabel)}, api.ErrBlock}, {[]api.Catch{clause(0, 5, noLabel)}, api.ErrBlock},
	} {
		refusesAnyway(t, try(typed(3), c.l...), c.want)
	}
	// Operands come behind all clauses.
	refuses(t, nested, context(), a(try(typed(3), good, good)), api.ErrUnder)
	refuses(t, place(nested).with(vals("i32, i32")), context(), a(try(typed(3), good)), api.ErrType)
	opens(t, nested, vals("i32, i64"), try(typed(3), good, good), vals("i32, i64"), vals("f32, f64"))
	many := slices.Repeat([]api.Catch{good}, 3000)
	opens(t, nested, nil, try(result("none"), many...), nil, nil)
	refuses(t, nested, context(), a(try(result("none"), append(many, types)...)), api.ErrType)
}

// Where all frames have been left no block can be entered.
func TestVC3AllLeft(t *testing.T) {
	for _, op := range []int{opcode.Block, opcode.Loop, opcode.TryTable} {
		for _, i := range []api.Instr{one(op, "none"), one(op, "i32"), block(op, 0), block(op, 3)} {
			refuses(t, left, context(), a(i), api.ErrBlock)
		}
	}
	refuses(t, left, context(), a(one(opcode.If, "none")), api.ErrUnder)
	refuses(t, left, context(), a(block(opcode.If, 3)), api.ErrUnder)
	refuses(t, left, context(), a(try(result("none"), clause(2, 0, 0))), api.ErrBlock)
	refuses(t, left, context(), a(try(result("none"), clause(4, 0, 0))), api.ErrForm)
	refuses(t, left, context(), a(block(opcode.Block, aStruct)), api.ErrKind)
	refuses(t, left, context(), turn(), api.ErrBlock)
	refuses(t, left, context(), closing(), api.ErrBlock)
	refuses(t, left, context(), stepping(block(opcode.Block, 0)), api.ErrNone)
}

// What is handed to Open is not changed, and the checker keeps none of the lists.
func TestVC3HandedIn(t *testing.T) {
	for _, op := range blockOps() {
		x, i := context(), block(op, 12)
		if op == opcode.TryTable {
			i = try(typed(12), clause(2, 0, toNothing), clause(0, 2, toI32))
		}
		c := place(nested).with(on(op, vals("f64, (ref 5)")))()
		must(t, vctl.Open(x, c, i))
		if told(x) != told(context()) || len(i.Catches) > 0 && told(i) != told(try(typed(12), clause(2, 0, toNothing), clause(0, 2, toI32))) {
			t.Errorf("%s: changed: %v, %v", instr.Text(i), x, i)
		}
		before := look(c)
		spoil(x)
		if after := look(c); after != before {
			t.Errorf("%s: it was\n%sand is\n%s", instr.Text(i), before, after)
		}
	}
}
