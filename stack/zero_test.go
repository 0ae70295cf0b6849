package stack_test

import (
	"math"
	"testing"

	"ratchet/api"
	"ratchet/opcode"
	"ratchet/stack"
)

func TestST6Asked(t *testing.T) {
	c := fresh("")
	for n := range 5 {
		if c.Depth() != n+1 || c.Height() != n || len(c.Operands()) != n || !c.Reached() || c.Done() {
			t.Errorf("with %d: %s", n, look(c))
		}
		must(t, c.Push(val("i32")), c.Enter(opcode.Block, nil, nil))
	}
	must(t, c.Unreachable())
	if c.Reached() || c.Done() || c.Depth() != 6 || c.Height() != 5 {
		t.Errorf("not reached: %s", look(c))
	}
	// Only the last frame's rest is asked of.
	must(t, c.Enter(opcode.Block, nil, nil))
	if !c.Reached() {
		t.Error("a new frame is not reached")
	}
	must(t, leave(c))
	if c.Reached() {
		t.Error("a frame that is not reached is, behind another")
	}
	must(t, leave(c))
	if !c.Reached() {
		t.Error("a frame is not reached since one in it was not")
	}
	for range c.Depth() {
		must(t, c.Unreachable(), leave(c))
	}
	if c.Depth() != 0 || c.Height() != 0 || len(c.Operands()) != 0 || !c.Reached() || !c.Done() {
		t.Errorf("at the end: %s", look(c))
	}
}

// zeroes are checkers that no call made, anew at each question.
func zeroes() []*stack.Checker { return []*stack.Checker{nil, {}, new(stack.Checker)} }

func TestST6ZeroErrors(t *testing.T) {
	l := vals("i32")
	for name, call := range map[string]func(c *stack.Checker) string{
		"Push":        func(c *stack.Checker) string { return told(c.Push(l[0])) },
		"Pushes":      func(c *stack.Checker) string { return told(c.Pushes(l)) },
		"Pushes none": func(c *stack.Checker) string { return told(c.Pushes(nil)) },
		"Pops":        func(c *stack.Checker) string { return told(c.Pops(l)) },
		"Pops none":   func(c *stack.Checker) string { return told(c.Pops(nil)) },
		"Swap":        func(c *stack.Checker) string { return told(c.Swap(l, l)) },
		"Swap in":     func(c *stack.Checker) string { return told(c.Swap(l, nil)) },
		"Swap out":    func(c *stack.Checker) string { return told(c.Swap(nil, l)) },
		"Swap none":   func(c *stack.Checker) string { return told(c.Swap(nil, nil)) },
		"Enter":       func(c *stack.Checker) string { return told(c.Enter(2, l, l)) },
		"Enter none":  func(c *stack.Checker) string { return told(c.Enter(2, nil, nil)) },
		"Unreachable": func(c *stack.Checker) string { return told(c.Unreachable()) },
	} {
		for _, c := range zeroes() {
			if got := call(c); got != told(api.ErrZero) {
				t.Errorf("%s of %p: %s", name, c, got)
			}
		}
	}
	for name, call := range map[string]func(c *stack.Checker) string{
		"Pop":          func(c *stack.Checker) string { return told(c.Pop()) },
		"PopType":      func(c *stack.Checker) string { return told(c.PopType(l[0])) },
		"PopType none": func(c *stack.Checker) string { return told(c.PopType(api.ValType{})) },
		"Local":        func(c *stack.Checker) string { return told(c.Local(0)) },
		"Local last":   func(c *stack.Checker) string { return told(c.Local(math.MaxUint32)) },
		"Get":          func(c *stack.Checker) string { return told(c.Get(0)) },
		"Set":          func(c *stack.Checker) string { return told(c.Set(0)) },
	} {
		for _, c := range zeroes() {
			if got := call(c); got != told(api.ValType{}, api.ErrZero) {
				t.Errorf("%s of %p: %s", name, c, got)
			}
		}
	}
	for _, c := range zeroes() {
		for range 2 {
			if got := told(c.Leave()); got != told(0, l[:0], l[:0], api.ErrZero) {
				t.Errorf("Leave of %p: %s", c, got)
			}
			if got := told(c.Last()); got != told(0, l[:0], l[:0], api.ErrZero) {
				t.Errorf("Last of %p: %s", c, got)
			}
			for _, n := range []uint32{0, 1, math.MaxUint32} {
				if got := told(c.Label(n)); got != told(l[:0], api.ErrZero) {
					t.Errorf("Label of %p: %s", c, got)
				}
			}
		}
	}
}

func TestST6ZeroAsked(t *testing.T) {
	for _, c := range zeroes() {
		// Calls that are refused make nothing of it.
		for range 2 {
			if len(c.Results()) != 0 || c.Depth() != 0 || c.Height() != 0 || len(c.Operands()) != 0 || c.Reached() || c.Done() {
				t.Errorf("%p: %v, %d, %d, %v, %v, %v", c, c.Results(), c.Depth(), c.Height(), c.Operands(), c.Reached(), c.Done())
			}
			c.Push(val("i32"))
			c.Enter(2, nil, nil)
			c.Unreachable()
			c.Leave()
			c.Set(0)
		}
	}
}
