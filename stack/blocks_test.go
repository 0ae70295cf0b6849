package stack_test

import (
	"fmt"
	"math"
	"testing"

	"ratchet/api"
	"ratchet/opcode"
	"ratchet/stack"
)

func TestST3EnterLeave(t *testing.T) {
	for _, op := range blocks() {
		c := fresh("i32")
		must(t, c.Pushes(vals("f64, i32, (ref i31)")), c.Enter(op, vals("i32, (ref null any)"), vals("i64, f32")))
		// The types that are asked for stand there from now on, not those that were there.
		hasOperands(t, c, "f64, i32, (ref null any)")
		if c.Depth() != 2 || !c.Reached() || c.Done() {
			t.Errorf("Enter(%d): %s", op, look(c))
		}
		gotOp, in, out, e := c.Last()
		isFrame(t, "Last", gotOp, in, out, e, op, "i32, (ref null any)", "i64, f32")
		must(t, c.Pops(vals("i32, (ref null any)")), c.Pushes(vals("i64, f32")))
		gotOp, in, out, e = c.Leave()
		isFrame(t, "Leave", gotOp, in, out, e, op, "i32, (ref null any)", "i64, f32")
		// What it ends with is not pushed.
		hasOperands(t, c, "f64")
		if c.Depth() != 1 {
			t.Errorf("Leave: %d frames", c.Depth())
		}
	}
}

// A block within one that is not reached is reached; behind it the rest is not, as ahead.
func TestST3EnterNotReached(t *testing.T) {
	c := stack.New(read("(func)"), nil, nil, nil)
	must(t, c.Push(val("f64")), c.Enter(opcode.Block, nil, nil), c.Unreachable(), c.Push(val("i32")))
	must(t, c.Enter(opcode.If, vals("i64, (ref 0), i32"), vals("i64")))
	hasOperands(t, c, "f64, i64, (ref 0), i32")
	if !c.Reached() {
		t.Error("a new block is not reached")
	}
	if e := c.Pops(vals("none, none, none, none")); e != api.ErrUnder {
		t.Errorf("Pops below the block's height: %d", e)
	}
	must(t, c.Pops(vals("(ref 0), i32")), leave(c))
	hasOperands(t, c, "f64")
	if c.Reached() || c.Depth() != 2 {
		t.Errorf("behind the block: %s", look(c))
	}
	must(t, c.Pops(vals("i32, i32")), leave(c))
	if !c.Reached() {
		t.Error("behind the block that is not reached it is reached again")
	}
	hasOperands(t, c, "f64")
}

// Operands may match a block's end without being it; any type matches it too.
func TestST3LeaveMatches(t *testing.T) {
	l := read("(sub (struct))", "(sub 0 (struct (field i32)))")
	for _, x := range []struct{ on, out string }{
		{"", ""}, {"i32, i64", "i32, i64"}, {"(ref 1), i32", "(ref null 0), i32"}, {"none, (ref none)", "f64, (ref 1)"}, {"f32", "none"},
	} {
		c := stack.New(l, nil, nil, nil)
		must(t, c.Push(val("f64")), c.Enter(opcode.Block, nil, vals(x.out)), c.Pushes(vals(x.on)))
		op, in, out, e := c.Leave()
		isFrame(t, "Leave with "+x.on, op, in, out, e, opcode.Block, "", x.out)
		hasOperands(t, c, "f64")
	}
	c := stack.New(l, nil, nil, vals("(ref 0), i32, i64"))
	must(t, c.Unreachable(), c.Push(val("i64")))
	op, in, out, e := c.Leave()
	isFrame(t, "Leave where it is not reached", op, in, out, e, opcode.Block, "", "(ref 0), i32, i64")
}

// closing are checkers whose last frame ends with i32, i64, f32, and has these operands; below are others, that would do.
func closing(t *testing.T, operands string, reached bool) map[string]func() *stack.Checker {
	end := func(c *stack.Checker) *stack.Checker {
		if !reached {
			must(t, c.Unreachable())
		}
		must(t, c.Pushes(vals(operands)))
		return c
	}
	start := func() *stack.Checker {
		return stack.New(nil, nil, vals("(ref func), (ref any)"), vals("i32, i64, f32"))
	}
	return map[string]func() *stack.Checker{
		"first frame": func() *stack.Checker {
			c := start()
			c.Set(0)
			return end(c)
		},
		"a frame above operands": func() *stack.Checker {
			c := start()
			c.Set(0)
			must(t, c.Pushes(vals("i32, i64, f32")), c.Enter(opcode.Loop, nil, vals("i32, i64, f32")))
			c.Set(1)
			return end(c)
		},
		"a frame in one that is not reached": func() *stack.Checker {
			c := start()
			must(t, c.Unreachable(), c.Pushes(vals("i32, i64")), c.Enter(opcode.If, vals("f64, i32, i64"), vals("i32, i64, f32")), c.Pops(vals("f64, i32, i64")))
			c.Set(0)
			return end(c)
		},
	}
}

func TestST3LeaveRefused(t *testing.T) {
	for _, x := range []struct {
		on            string
		reached, dead api.Errno // what Leave answers
	}{
		{"i32, i64, f32", api.OK, api.OK},
		{"i64, f32", api.ErrUnder, api.OK}, {"f32", api.ErrUnder, api.OK}, {"", api.ErrUnder, api.OK}, {"none, f32", api.ErrUnder, api.OK},
		{"i32, i64, f64", api.ErrType, api.ErrType}, {"i32, f64, f32", api.ErrType, api.ErrType}, {"f64, i64, f32", api.ErrType, api.ErrType},
		{"i32", api.ErrType, api.ErrType}, {"i32, f32", api.ErrType, api.ErrType}, {"(ref func)", api.ErrType, api.ErrType},
		{"i32, i32, i64, f32", api.ErrLeft, api.ErrLeft}, {"none, none, none, none", api.ErrLeft, api.ErrLeft}, {"f64, f64, i32, i64, f32", api.ErrLeft, api.ErrLeft},
		// Types that don't match come ahead of operands that are left.
		{"i32, f64, i64, f32", api.ErrType, api.ErrType}, {"i32, i64, f32, f32", api.ErrType, api.ErrType}, {"i32, i64, f32, f64", api.ErrType, api.ErrType},
	} {
		for _, reached := range []bool{true, false} {
			want := x.reached
			if !reached {
				want = x.dead
			}
			for place, make := range closing(t, x.on, reached) {
				what := fmt.Sprint("Leave with ", x.on, " in ", place, " ", reached)
				if want == api.OK {
					c := make()
					must(t, leave(c))
					continue
				}
				refuses(t, make, what, func(c *stack.Checker) api.Errno {
					op, in, out, e := c.Leave()
					if op != 0 || len(in) > 0 || len(out) > 0 {
						t.Errorf("%s: %d, %v, %v beside an error", what, op, in, out)
					}
					return e
				}, want)
			}
		}
	}
}

// A block of no end is left just where nothing is above its height.
func TestST3LeaveLeft(t *testing.T) {
	c := fresh("")
	must(t, c.Push(val("i32")), c.Enter(opcode.Block, vals("i32"), nil))
	for range 2 {
		if e := leave(c); e != api.ErrLeft {
			t.Errorf("Leave with what came in: %d", e)
		}
	}
	hasOperands(t, c, "i32")
	if c.Depth() != 2 {
		t.Errorf("%d frames", c.Depth())
	}
	must(t, c.Pops(vals("i32")), leave(c), c.Push(val("none")))
	if e := leave(c); e != api.ErrLeft {
		t.Errorf("Leave with any type left: %d", e)
	}
	must(t, c.Unreachable(), leave(c))
}

// Last asks nothing and does nothing.
func TestST3Last(t *testing.T) {
	c := fresh("i32")
	op, in, out, e := c.Last()
	isFrame(t, "Last of the first frame", op, in, out, e, opcode.Block, "", "i32")
	must(t, c.Pushes(vals("f64, f32")), c.Enter(opcode.If, vals("f32"), vals("i64, i64")), c.Pushes(vals("i32, i32")))
	before := look(c)
	for range 3 {
		// Leave would refuse.
		op, in, out, e = c.Last()
		isFrame(t, "Last", op, in, out, e, opcode.If, "f32", "i64, i64")
	}
	if after := look(c); after != before {
		t.Errorf("Last: it was\n%sand is\n%s", before, after)
	}
	must(t, c.Unreachable())
	op, in, out, e = c.Last()
	isFrame(t, "Last where it is not reached", op, in, out, e, opcode.If, "f32", "i64, i64")
	must(t, leave(c))
	op, in, out, e = c.Last()
	isFrame(t, "Last behind the block", op, in, out, e, opcode.Block, "", "i32")
}

func TestST4Unreachable(t *testing.T) {
	c := fresh("i32")
	must(t, c.Pushes(vals("f64, i64")), c.Enter(opcode.Block, vals("i64"), vals("f32")), c.Pushes(vals("i32, i32")))
	for range 2 {
		must(t, c.Unreachable())
		hasOperands(t, c, "f64")
		if c.Reached() || c.Depth() != 2 {
			t.Errorf("behind Unreachable: %s", look(c))
		}
		must(t, c.Pushes(vals("i32, none")))
	}
	must(t, c.Unreachable(), leave(c))
	hasOperands(t, c, "f64")
	if !c.Reached() {
		t.Error("behind the block it is not reached")
	}
	must(t, c.Unreachable())
	hasOperands(t, c, "")
	must(t, leave(c))
	if !c.Reached() || !c.Done() {
		t.Errorf("at the end: %s", look(c))
	}
}

func TestST4Label(t *testing.T) {
	c := fresh("f64")
	must(t, c.Push(val("i32")))
	for _, op := range blocks() {
		must(t, c.Enter(op, vals("i32"), vals("i64, f32")))
	}
	for n, op := range blocks() {
		want := vals("i64, f32")
		if op == opcode.Loop {
			want = vals("i32")
		}
		l, e := c.Label(uint32(len(blocks()) - 1 - n))
		if told(l, e) != told(want, api.OK) {
			t.Errorf("Label of %d: %v, %d", op, l, e)
		}
	}
	depth := uint32(c.Depth())
	if l, e := c.Label(depth - 1); told(l, e) != told(vals("f64"), api.OK) {
		t.Errorf("Label of the first frame: %v, %d", l, e)
	}
	for _, n := range []uint32{depth, depth + 1, 1000, math.MaxInt32 - 1, math.MaxInt32, 1 << 31, 1<<31 + 1, math.MaxUint32 - depth, math.MaxUint32 - depth + 1, math.MaxUint32 - 1, math.MaxUint32} {
		if l, e := c.Label(n); len(l) != 0 || e != api.ErrBlock {
			t.Errorf("Label(%d): %v, %d", n, l, e)
		}
	}
}

func TestST4Results(t *testing.T) {
	c := fresh("i32, (ref null 3)")
	want := told(vals("i32, (ref null 3)"))
	ask := func(where string) {
		t.Helper()
		if got := told(c.Results()); got != want {
			t.Errorf("Results %s: %s", where, got)
		}
	}
	ask("at first")
	must(t, c.Enter(opcode.Loop, nil, vals("f64")))
	ask("in a block")
	must(t, c.Unreachable())
	ask("where it is not reached")
	must(t, leave(c))
	ask("behind a block")
	must(t, c.Unreachable(), leave(c))
	ask("at the end")
	if l := fresh("").Results(); len(l) != 0 {
		t.Errorf("Results of none: %v", l)
	}
}

// ended is a checker whose first frame has been left.
func ended(t *testing.T) *stack.Checker {
	t.Helper()
	c := stack.New(nil, vals("i32"), vals("(ref func)"), vals("i32, i64"))
	c.Set(1)
	must(t, c.Pushes(vals("i32, i64")))
	op, in, out, e := c.Leave()
	isFrame(t, "Leave of the first frame", op, in, out, e, opcode.Block, "", "i32, i64")
	return c
}

// Behind the first frame nothing goes on, but for what is asked of the whole function and of its locals.
func TestST3Done(t *testing.T) {
	c, none, i32 := ended(t), api.ValType{}, vals("i32")
	if c.Depth() != 0 || c.Height() != 0 || len(c.Operands()) != 0 || !c.Reached() || !c.Done() || told(c.Results()) != told(vals("i32, i64")) {
		t.Errorf("behind the first frame: %s", look(c))
	}
	for _, x := range []struct {
		name string
		call func() string
		want string
	}{
		{"Push", func() string { return told(c.Push(i32[0])) }, told(api.ErrBlock)},
		{"Pushes", func() string { return told(c.Pushes(vals("i32, i64"))) }, told(api.ErrBlock)},
		{"Pushes of nothing", func() string { return told(c.Pushes(nil)) }, told(api.OK)},
		{"Pop", func() string { return told(c.Pop()) }, told(none, api.ErrUnder)},
		{"PopType", func() string { return told(c.PopType(none)) }, told(none, api.ErrUnder)},
		{"Pops", func() string { return told(c.Pops(vals("none"))) }, told(api.ErrUnder)},
		{"Pops of nothing", func() string { return told(c.Pops(nil)) }, told(api.OK)},
		{"Swap", func() string { return told(c.Swap(i32, i32)) }, told(api.ErrUnder)},
		{"Swap of nothing in", func() string { return told(c.Swap(nil, i32)) }, told(api.ErrBlock)},
		{"Swap of nothing", func() string { return told(c.Swap(nil, nil)) }, told(api.OK)},
		{"Enter", func() string { return told(c.Enter(opcode.Block, i32, nil)) }, told(api.ErrBlock)},
		{"Enter of nothing", func() string { return told(c.Enter(opcode.Block, nil, nil)) }, told(api.ErrBlock)},
		{"Leave", func() string { return told(c.Leave()) }, told(0, i32[:0], i32[:0], api.ErrBlock)},
		{"Last", func() string { return told(c.Last()) }, told(0, i32[:0], i32[:0], api.ErrBlock)},
		{"Unreachable", func() string { return told(c.Unreachable()) }, told(api.ErrBlock)},
		{"Label", func() string { return told(c.Label(0)) }, told(i32[:0], api.ErrBlock)},
		{"Local", func() string { return told(c.Local(1)) }, told(val("(ref func)"), api.OK)},
		{"Get", func() string { return told(c.Get(0)) }, told(i32[0], api.OK)},
		{"Get of what was set", func() string { return told(c.Get(1)) }, told(none, api.ErrUnset)},
		{"Get of none", func() string { return told(c.Get(2)) }, told(none, api.ErrArg)},
	} {
		unchanged(t, x.name, c, func() {
			if got := x.call(); got != x.want {
				t.Errorf("%s behind the first frame: %s", x.name, got)
			}
		})
	}
	v, e := c.Set(1)
	is(t, "Set behind the first frame", v, e, val("(ref func)"), api.OK)
	v, e = c.Get(1)
	is(t, "Get of what is set behind the first frame", v, e, val("(ref func)"), api.OK)
}

// As many blocks in one another as there may be, and more.
func TestST3Deep(t *testing.T) {
	c := fresh("")
	const many = 3 * api.MaxNest
	for n := range many {
		must(t, c.Push(val("i32")), c.Enter(n, vals("i32"), vals("i64")), c.Push(val("f32")))
	}
	if c.Depth() != many+1 || c.Height() != 2*many {
		t.Errorf("%d frames, %d operands", c.Depth(), c.Height())
	}
	for n := many - 1; n >= 0; n-- {
		must(t, c.Unreachable())
		op, in, out, e := c.Leave()
		isFrame(t, "Leave", op, in, out, e, n, "i32", "i64")
		if n > 0 {
			// The operand ahead of the next frame's own two.
			must(t, c.Pops(vals("i32, f32")))
		}
	}
	hasOperands(t, c, "")
}
