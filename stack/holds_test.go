package stack_test

import (
	"math/rand"
	"slices"
	"strings"
	"testing"

	"ratchet/api"
	"ratchet/opcode"
	"ratchet/stack"
)

func TestExamples(t *testing.T) {
	c := stack.New(nil, vals("i32"), nil, vals("i32"))
	v, e := c.Get(0)
	is(t, "Get(0)", v, e, val("i32"), api.OK)
	must(t, c.Push(val("i32")))
	if op, _, _, e := c.Leave(); op != 2 || e != api.OK {
		t.Errorf("Leave: %d, %d", op, e)
	}
	c = fresh("")
	v, e = c.Pop()
	is(t, "Pop at first", v, e, api.ValType{}, api.ErrUnder)
	must(t, c.Unreachable())
	v, e = c.Pop()
	is(t, "Pop behind Unreachable", v, e, api.ValType{}, api.OK)
	c = stack.New(nil, nil, vals("(ref func)"), nil)
	v, e = c.Get(0)
	is(t, "Get", v, e, api.ValType{}, api.ErrUnset)
	must(t, c.Enter(opcode.Block, nil, nil))
	v, e = c.Set(0)
	is(t, "Set", v, e, val("(ref func)"), api.OK)
	v, e = c.Get(0)
	is(t, "Get of what was set", v, e, val("(ref func)"), api.OK)
	must(t, leave(c))
	v, e = c.Get(0)
	is(t, "Get behind the block", v, e, api.ValType{}, api.ErrUnset)
	must(t, c.Push(val("i32")))
	v, e = c.PopType(val("i64"))
	is(t, "PopType(i64) on i32", v, e, api.ValType{}, api.ErrType)
	hasOperands(t, c, "i32")
}

// chooser makes calls by chance; all that it makes hangs on its seed.
type chooser struct {
	*rand.Rand
	kinds []api.ValType
}

func newChooser(seed int64) *chooser {
	kinds := append(vals("i32, i32, i32, i64, f32, none, (ref null any), (ref i31), (ref 0), (ref null 1), (ref 2), (ref null func), (ref 9)"), api.ValType{Num: 99})
	return &chooser{rand.New(rand.NewSource(seed)), kinds}
}

func (r *chooser) kind() api.ValType { return r.kinds[r.Intn(len(r.kinds))] }

func (r *chooser) list(most int) []api.ValType {
	l := make([]api.ValType, r.Intn(most+1))
	for n := range l {
		l[n] = r.kind()
	}
	return l
}

// lists are what New is handed.
type lists struct {
	groups                  []api.RecType
	params, locals, results []api.ValType
}

func (r *chooser) lists() lists {
	groups := [][]api.RecType{
		nil,
		read("(sub (struct))", "(sub 0 (struct (field i32)))", "(sub (struct))"),
		read("(func)", "(rec (func) (array (ref 1)))"),
		read("(struct (field (ref 5)))", "(func)"),
	}
	return lists{groups[r.Intn(len(groups))], r.list(3), r.list(4), r.list(r.Intn(3))}
}

func (l lists) checker() *stack.Checker { return stack.New(l.groups, l.params, l.locals, l.results) }
func (l lists) oracle() *oracle         { return newOracle(l.groups, l.params, l.locals, l.results) }

// likely is a list that can often be popped: the last operands, some of them changed, some more ahead.
func (r *chooser) likely(c checker) []api.ValType {
	l := c.Operands()
	l = l[len(l)-min(len(l), r.Intn(4)):]
	for n := range l {
		if r.Intn(12) == 0 {
			l[n] = r.kind()
		}
	}
	if r.Intn(6) == 0 {
		l = append(r.list(2), l...)
	}
	return l
}

// call is a call by its name, to be made on any checker: it tells what is answered, and the error, and writes over all lists that are handed over.
type call struct {
	name string
	make func(c checker) (string, api.Errno)
}

// listCall hands copies of lists to a call.
func listCall(name string, in, out []api.ValType, f func(c checker, in, out []api.ValType) api.Errno) call {
	return call{told(name, in, out), func(c checker) (string, api.Errno) {
		x, y := slices.Clone(in), slices.Clone(out)
		e := f(c, x, y)
		spoil(x)
		spoil(y)
		return told(e), e
	}}
}

// typeCall is a call that answers a type.
func typeCall(f func(c checker) (api.ValType, api.Errno), name ...any) call {
	return call{told(name...), func(c checker) (string, api.Errno) {
		v, e := f(c)
		return told(v, e), e
	}}
}

// frameCall is a call that answers a frame.
func frameCall(name string, f func(c checker) (int, []api.ValType, []api.ValType, api.Errno)) call {
	return call{told(name), func(c checker) (string, api.Errno) {
		op, in, out, e := f(c)
		s := told(op, in, out, e)
		spoil(in)
		spoil(out)
		return s, e
	}}
}

// call chooses a call that does something to a checker in most cases.
func (r *chooser) call(c checker) call {
	l, more, v, n := r.likely(c), r.list(3), r.kind(), uint32(r.Intn(8))
	if h := c.Height(); h > 0 && r.Intn(3) > 0 {
		v = c.Operands()[h-1]
	}
	op := blocks()[r.Intn(len(blocks()))]
	_, _, end, _ := c.Last()
	all := []call{
		listCall("Push", []api.ValType{v}, nil, func(c checker, in, _ []api.ValType) api.Errno { return c.Push(in[0]) }),
		typeCall(checker.Pop, "Pop"),
		typeCall(func(c checker) (api.ValType, api.Errno) { return c.PopType(v) }, "PopType", v),
		listCall("Pushes", more, nil, func(c checker, in, _ []api.ValType) api.Errno { return c.Pushes(in) }),
		listCall("Pushes", end, nil, func(c checker, in, _ []api.ValType) api.Errno { return c.Pushes(in) }),
		listCall("Pops", l, nil, func(c checker, in, _ []api.ValType) api.Errno { return c.Pops(in) }),
		listCall("Swap", l, more, checker.Swap),
		listCall(told("Enter", op), l, more, func(c checker, in, out []api.ValType) api.Errno { return c.Enter(op, in, out) }),
		listCall(told("Enter", op), l, l, func(c checker, in, out []api.ValType) api.Errno { return c.Enter(op, in, out) }),
		listCall(told("Enter", op), l, nil, func(c checker, in, out []api.ValType) api.Errno { return c.Enter(op, in, out) }),
		frameCall("Leave", checker.Leave),
		frameCall("Leave", checker.Leave),
		frameCall("Last", checker.Last),
		listCall("Unreachable", nil, nil, func(c checker, _, _ []api.ValType) api.Errno { return c.Unreachable() }),
		typeCall(func(c checker) (api.ValType, api.Errno) { return c.Set(n) }, "Set", n),
		typeCall(func(c checker) (api.ValType, api.Errno) { return c.Set(n) }, "Set", n),
		typeCall(func(c checker) (api.ValType, api.Errno) { return c.Get(n) }, "Get", n),
		typeCall(func(c checker) (api.ValType, api.Errno) { return c.Local(n) }, "Local", n),
	}
	return all[r.Intn(len(all))]
}

// Rows of calls answer what the chapter's words answer, and leave what these leave.
func TestST7Rows(t *testing.T) {
	done, deep := 0, 0
	seen := map[api.Errno]int{}
	for seed := range int64(3000) {
		r := newChooser(seed)
		l := r.lists()
		c, o := l.checker(), l.oracle()
		var row strings.Builder
		for range 60 {
			call := r.call(o)
			row.WriteString(call.name)
			x, e := call.make(c)
			y, _ := call.make(o)
			seen[e]++
			if x != y {
				t.Fatalf("seed %d: %s\nanswers %s, not %s", seed, row.String(), x, y)
			}
			if x, y := look(c), look(o); x != y {
				t.Fatalf("seed %d: %s\nleaves\n%snot\n%s", seed, row.String(), x, y)
			}
			deep = max(deep, c.Depth())
		}
		if c.Done() {
			done++
		}
		if x, y := drain(c), drain(o); x != y {
			t.Fatalf("seed %d: %s\nleads to\n%snot\n%s", seed, row.String(), x, y)
		}
	}
	// The rows must come to all that there is.
	for _, e := range []api.Errno{api.OK, api.ErrArg, api.ErrUnder, api.ErrType, api.ErrLeft, api.ErrBlock, api.ErrUnset} {
		if seen[e] < 500 {
			t.Errorf("%d calls of error %d", seen[e], e)
		}
	}
	if done < 300 || done > 2700 || deep < 8 {
		t.Errorf("%d rows come to an end, %d frames at most", done, deep)
	}
}

// A checker on which only those calls are made that another one takes is as that one, at once and later.
func TestST7Refused(t *testing.T) {
	for seed := range int64(1000) {
		r := newChooser(seed)
		l := r.lists()
		c, d := l.checker(), l.checker()
		for range 60 {
			call := r.call(c)
			if _, e := call.make(c); e == api.OK {
				call.make(d)
			}
			if x, y := look(c), look(d); x != y {
				t.Fatalf("seed %d: %s: with what is refused\n%swithout it\n%s", seed, call.name, x, y)
			}
		}
		if x, y := drain(c), drain(d); x != y {
			t.Fatalf("seed %d: with what is refused\n%swithout it\n%s", seed, x, y)
		}
	}
}

// Where it is not reached, Swap goes with any types ahead of those that match the operands that are there.
func TestST7SwapNotReached(t *testing.T) {
	r := newChooser(3)
	for range 2000 {
		c := r.lists().checker()
		below, on, more, out := r.list(3), vals("i32, (ref i31), none")[:r.Intn(4)], r.list(4), r.list(3)
		must(t, c.Pushes(below), c.Enter(opcode.Block, nil, nil), c.Unreachable(), c.Pushes(on))
		asked := slices.Concat(more, vals("i32, none, (ref 9)")[:len(on)])
		if r.Intn(2) == 0 {
			// Any part of it from the last type on: the operands ahead of it stay.
			cut := r.Intn(len(on) + 1)
			asked, below = asked[len(more)+cut:], slices.Concat(below, on[:cut])
		}
		must(t, c.Swap(asked, out))
		if told(c.Operands()) != told(slices.Concat(below, out)) || c.Reached() {
			t.Fatalf("Swap(%v, %v) on %v: %s", asked, out, on, look(c))
		}
	}
}

// Leave of each Enter leaves locals as they were set, and operands never fall below the last frame's height.
func TestST7LocalsAndHeights(t *testing.T) {
	type ahead struct {
		set    string
		height int
	}
	left := 0
	for seed := range int64(2000) {
		r := newChooser(seed)
		c := r.lists().checker()
		open := []ahead{{setOnes(c), 0}}
		for range 60 {
			depth, set, call := c.Depth(), setOnes(c), r.call(c)
			call.make(c)
			switch {
			case c.Depth() > depth:
				_, in, _, _ := c.Last()
				open = append(open, ahead{set, c.Height() - len(in)})
			case c.Depth() < depth:
				was := open[len(open)-1]
				if got := setOnes(c); got != was.set {
					t.Fatalf("seed %d: %s: set %s, not %s", seed, call.name, got, was.set)
				}
				if c.Height() != was.height {
					t.Fatalf("seed %d: %s: %d operands, not %d", seed, call.name, c.Height(), was.height)
				}
				open = open[:len(open)-1]
				left++
			}
			if c.Done() {
				break
			}
			if h := open[len(open)-1].height; c.Height() < h {
				t.Fatalf("seed %d: %s: %d operands, below %d", seed, call.name, c.Height(), h)
			}
		}
	}
	if left < 2000 {
		t.Errorf("only %d frames are left", left)
	}
}
