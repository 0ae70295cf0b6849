package module_test

import (
	"testing"

	"ratchet/api"
)

// coded is a module of as many functions as there are bodies.
func coded(n int, contents []byte) []byte {
	return mod(sec(functions, vec(n, 7)), sec(bodies, contents))
}

// faultsIn asks of a code section's contents, behind as many functions, for an error and its place from their beginning on.
func faultsIn(t *testing.T, n int, contents []byte, place int, e api.Errno) {
	t.Helper()
	b := coded(n, contents)
	refuses(t, b, len(b)-len(contents)+place, e)
	faults(t, bodies, contents, place, e)
}

func TestMO1Bodies(t *testing.T) {
	shows(t, coded(1, bin("01 02 00 0b")), api.Module{Funcs: []api.Func{{Type: 7}}})
	shows(t, coded(1, bin("01 82 80 80 80 00 00 0b")), api.Module{Funcs: []api.Func{{Type: 7}}})
	b := mod(sec(functions, bin("03 05 81 00 00")), sec(bodies, bin("03  0a 02 02 7f 01 63 6e 41 07 1a 0b  02 00 0b  05 00 03 40 0b 0b")))
	shows(t, b, api.Module{Funcs: []api.Func{
		{Type: 5, Locals: []api.Local{{Count: 2, Type: num(api.TI32)}, {Count: 1, Type: refNull(api.HAny)}}, Body: list(constant(7), api.Instr{Op: 0x1a})},
		{Type: 1},
		{Type: 0, Body: list(api.Instr{Op: 3, Block: api.Block{Type: -1}})},
	}})
	faultsIn(t, 1, bin("01 02 00 06"), 3, api.ErrForm)
	faultsIn(t, 1, bin("01 03 00 fd 0b"), 3, api.ErrSimd)
	faultsIn(t, 1, bin("01 04 01 01 7b 0b"), 4, api.ErrSimd)
	faultsIn(t, 1, bin("01 06 01 d1 86 03 7f 0b"), 3, api.ErrLong)
	faultsIn(t, 1, bin("01 05 d1 86 03 7f 0b"), 2, api.ErrLong)
	faultsIn(t, 2, bin("02 02 00 0b 02 00 05"), 6, api.ErrForm)
	faultsIn(t, 1, bin("01 80 80 80 80 10"), 5, api.ErrForm)
	faultsIn(t, 1, bin("01 02 00 0b 00"), 4, api.ErrMore)
	faultsIn(t, 1, bin("01 02 00 0b 02 00 0b"), 4, api.ErrMore)
}

// A body's size is held against the section's end ahead of what the body holds.
func TestMO1BodiesSizes(t *testing.T) {
	// Shorter than what it holds: bytes end with the size.
	faultsIn(t, 1, bin("01 00"), 2, api.ErrShort)
	faultsIn(t, 1, bin("01 00 00 0b"), 2, api.ErrShort)
	faultsIn(t, 1, bin("01 01 00 0b"), 3, api.ErrShort)
	faultsIn(t, 1, bin("01 03 00 41 07 0b"), 5, api.ErrShort)
	faultsIn(t, 1, bin("01 02 00 41 07 0b"), 4, api.ErrShort)
	faultsIn(t, 1, bin("01 04 00 02 40 0b 0b"), 6, api.ErrShort)
	faultsIn(t, 1, bin("01 01 01 01 7f 0b"), 3, api.ErrShort)
	faultsIn(t, 2, bin("02 01 00 0b 02 00 0b"), 3, api.ErrShort)
	// Longer: what is left behind the expression, within the size.
	faultsIn(t, 1, bin("01 03 00 0b 00"), 4, api.ErrMore)
	faultsIn(t, 1, bin("01 03 00 0b 0b"), 4, api.ErrMore)
	faultsIn(t, 1, bin("01 06 00 41 07 0b ff ff"), 6, api.ErrMore)
	faultsIn(t, 2, bin("02 05 00 0b 02 00 0b"), 4, api.ErrMore)
	faultsIn(t, 2, bin("02 03 00 0b 00 02 00 06"), 4, api.ErrMore)
	faultsIn(t, 2, bin("02 02 00 0b 03 00 0b 0b"), 7, api.ErrMore)
	// Longer than the section.
	faultsIn(t, 1, bin("01 03 00 0b"), 4, api.ErrShort)
	faultsIn(t, 1, bin("01 01"), 2, api.ErrShort)
	faultsIn(t, 1, bin("01 ff ff ff ff 0f 00 0b"), 8, api.ErrShort)
	faultsIn(t, 1, bin("01 80 80 80 80 08 00 06"), 8, api.ErrShort)
	faultsIn(t, 1, bin("01 04 00 06 0b"), 5, api.ErrShort)
	faultsIn(t, 2, bin("02 02 00 0b 03 00 0b"), 7, api.ErrShort)
	b := bin("02 07 01 01 7f 41 07 1a 0b 04 00 41 07 0b")
	for k := range b {
		if k > 0 {
			faultsIn(t, 2, b[:k], k, api.ErrShort)
		}
	}
	shows(t, coded(2, b), api.Module{Funcs: []api.Func{
		{Type: 7, Locals: []api.Local{{Count: 1, Type: num(api.TI32)}}, Body: list(constant(7), api.Instr{Op: 0x1a})}, {Type: 7, Body: list(constant(7))},
	}})
}

// A body has at most so many instructions, and so many blocks within one another.
func TestMO1BodiesLimits(t *testing.T) {
	deep := func(n int) []byte {
		var b []byte
		for range n {
			b = append(b, 2, 0x40)
		}
		for range n + 1 {
			b = append(b, 0x0b)
		}
		return b
	}
	sized := func(expression []byte) []byte {
		return join(bin("01"), longer([]byte{byte(len(expression)+1) | 0x80, byte((len(expression) + 1) >> 7)}, 2), bin("00"), expression)
	}
	reads(t, coded(1, sized(deep(256))))
	faultsIn(t, 1, sized(deep(257)), 1+2+1+2*256, api.ErrLong)
	faults(t, globals, join(bin("01 7f 00"), deep(257)), 3+2*256, api.ErrLong)
}

// needing are bodies that name a data segment, each of the four instructions in each part of a body in which it may stand.
func needing() [][]byte {
	var l [][]byte
	for _, op := range []string{"fc 08 00 00", "fc 09 00", "fb 09 00 00", "fb 12 00 00"} {
		for _, around := range [][2]string{
			{"", ""}, {"01", "1a"}, {"02 40", "0b"}, {"03 40", "0b"}, {"1f 40 00", "0b"}, {"04 40", "0b"}, {"04 40", "05 0b"}, {"04 40 05", "0b"},
			{"02 40 03 40 04 40 01 05 1f 40 00", "0b 0b 0b 0b"}, {"02 40 01 0b 02 40 02 40 0b", "0b 01"},
		} {
			b := join(bin("00"), bin(around[0]), bin(op), bin(around[1]), bin("0b"))
			l = append(l, join([]byte{byte(len(b))}, b))
		}
	}
	return l
}

func TestMO1CountNeeded(t *testing.T) {
	one := sec(datas, bin("01 01 00"))
	for _, body := range needing() {
		for _, code := range [][]byte{join(bin("01"), body), join(bin("03 02 00 0b"), body, bin("02 00 0b")), join(bin("02 02 00 0b"), body)} {
			funcs, s := sec(functions, vec(int(code[0]), 7)), sec(bodies, code)
			b := mod(funcs, s)
			refuses(t, b, len(b), api.ErrCount)
			b = mod(funcs, s, one)
			refuses(t, b, len(b), api.ErrCount)
			b = mod(funcs, s, one, note("a"))
			refuses(t, b, len(b), api.ErrCount)
			m := reads(t, mod(funcs, sec(count, bin("01")), s, one))
			if !m.HasCount || len(m.Datas) != 1 || len(m.Funcs) != int(code[0]) {
				t.Errorf("with a count: %s", brief(told(m)))
			}
			reads(t, mod(funcs, sec(count, bin("00")), s))
		}
	}
	// Only bodies are asked, and only these four.
	reads(t, mod(sec(globals, bin("01 7f 00 fc 08 00 00 0b"))))
	reads(t, mod(sec(elements, bin("01 04 fc 09 00 0b 01 fb 09 00 00 0b"))))
	reads(t, mod(sec(datas, bin("01 00 fb 12 00 00 0b 00"))))
	reads(t, mod(sec(tables, bin("01 40 00 70 00 00 fc 09 00 0b"))))
	reads(t, coded(1, bin("01 14 00 fc 0a 00 00 fc 0b 00 fc 0c 00 00 fb 0a 00 00 fc 0d 00 0b")))
}

func TestMO1CountAgrees(t *testing.T) {
	for n := range 4 {
		s := sec(datas, vec(n, 1, 0))
		for k := range 5 {
			b := mod(sec(count, []byte{byte(k)}), s)
			if k != n {
				refuses(t, b, len(b), api.ErrCount)
				continue
			}
			shows(t, b, api.Module{HasCount: true, Datas: many(api.Data{}, n)})
		}
		shows(t, mod(s), api.Module{Datas: many(api.Data{}, n)})
	}
	shows(t, mod(sec(count, bin("00"))), api.Module{HasCount: true})
	shows(t, mod(sec(count, bin("80 80 80 80 00"))), api.Module{HasCount: true})
	for _, digits := range []string{"01", "02", "80 80 80 80 01", "ff ff ff ff 0f", "91 ce 00"} {
		b := mod(sec(count, bin(digits)))
		refuses(t, b, len(b), api.ErrCount)
		b = mod(sec(count, bin(digits)), sec(datas, bin("00")), note("a"))
		refuses(t, b, len(b), api.ErrCount)
	}
	// 2^32 more is no other number of 32 bits: it is none at all.
	faults(t, count, bin("81 80 80 80 10"), 4, api.ErrForm)
	faults(t, count, bin("00 00"), 1, api.ErrMore)
	faults(t, count, bin("81 00 01"), 2, api.ErrMore)
}

func TestMO1CountOfBodies(t *testing.T) {
	for n := range 4 {
		for k := range 4 {
			b := mod(sec(functions, vec(n, 7)), sec(bodies, vec(k, 2, 0, 0x0b)))
			if n != k {
				refuses(t, b, len(b), api.ErrCount)
				continue
			}
			shows(t, b, api.Module{Funcs: many(api.Func{Type: 7}, n)})
		}
		if n > 0 {
			b := mod(sec(functions, vec(n, 7)))
			refuses(t, b, len(b), api.ErrCount)
			b = mod(sec(bodies, vec(n, 2, 0, 0x0b)))
			refuses(t, b, len(b), api.ErrCount)
		}
	}
	// Imported functions have no bodies.
	imported := sec(imports, bin("01 00 00 00 05"))
	reads(t, mod(imported))
	b := mod(imported, sec(bodies, bin("01 02 00 0b")))
	refuses(t, b, len(b), api.ErrCount)
	reads(t, mod(imported, sec(functions, bin("01 07")), sec(bodies, bin("01 02 00 0b"))))
}

// Of several faults the first counts; those of number come behind all sections.
func TestMO1First(t *testing.T) {
	wrong := map[int]struct {
		digits string
		place  int
		e      api.Errno
	}{
		types: {"01 61", 1, api.ErrForm}, imports: {"01 00 00 05", 3, api.ErrForm}, functions: {"01 80 80 80 80 10", 5, api.ErrForm},
		tables: {"02 70 00 00 7f", 4, api.ErrForm}, memories: {"01 02", 1, api.ErrForm}, tags: {"01", 1, api.ErrShort}, globals: {"01 7b", 1, api.ErrSimd},
		exports: {"01 81 80 04", 1, api.ErrLong}, start: {"07 07", 1, api.ErrMore}, elements: {"01 08", 1, api.ErrForm}, count: {"00 07", 1, api.ErrMore},
		bodies: {"01 03 00 0b 0b", 4, api.ErrMore}, datas: {"01 03", 1, api.ErrForm},
	}
	// A function without a body, and a count of no segment, are faults, too, but behind all sections.
	right := map[int][]byte{start: bin("00"), count: bin("07")}
	for _, id := range vectors() {
		right[id] = vec(1, leastOf(id)...)
	}
	right[functions] = bin("02 00 00")
	for n, id := range inOrder() {
		b := head()
		for _, other := range inOrder()[:n] {
			b = append(b, sec(other, right[other])...)
		}
		w := wrong[id]
		place := len(b) + 2 + w.place
		b = append(b, sec(id, bin(w.digits))...)
		refuses(t, b, place, w.e)
		for _, other := range inOrder()[n+1:] {
			refuses(t, join(b, sec(other, bin(wrong[other].digits))), place, w.e)
			refuses(t, join(b, sec(other, right[other])), place, w.e)
		}
	}
	b := head()
	for _, id := range inOrder() {
		b = append(b, sec(id, right[id])...)
	}
	refuses(t, b, len(b), api.ErrCount)
}
