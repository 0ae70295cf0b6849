package module_test

import (
	"bytes"
	"math"
	"testing"

	"ratchet/api"
	"ratchet/leb"
	"ratchet/module"
)

func TestMO1Examples(t *testing.T) {
	shows(t, bin("00 61 73 6D 01 00 00 00"), api.Module{})
	refuses(t, append(head(), bin("03 02 01 00")...), 12, api.ErrCount)
	shows(t, append(head(), bin("01 04 01 60 00 00  03 02 01 00  0A 04 01 02 00 0B")...), api.Module{
		Types: list(nothing()), Funcs: []api.Func{{}},
	})
	refuses(t, append(head(), bin("0C 01 01")...), 11, api.ErrCount)
	refuses(t, append(head(), bin("08 02 00 00")...), 11, api.ErrMore)
}

// What frame.Split tells comes ahead of all that stands in a section.
func TestMO1FrameFirst(t *testing.T) {
	refuses(t, nil, 0, api.ErrShort)
	refuses(t, []byte{}, 0, api.ErrShort)
	refuses(t, bin("00 61 73"), 3, api.ErrShort)
	refuses(t, bin("00 61 73 6e"), 3, api.ErrForm)
	refuses(t, bin("00 61 73 6d 02 00 00 00"), 4, api.ErrForm)
	faulty := sec(types, bin("01 61")) // ErrForm at 11
	refuses(t, mod(faulty), 11, api.ErrForm)
	for _, c := range []struct {
		behind string
		at     int
		e      api.Errno
	}{
		{"0e 00", 12, api.ErrForm},
		{"ff", 12, api.ErrForm},
		{"02", 13, api.ErrShort},
		{"02 80", 14, api.ErrShort},
		{"02 01", 14, api.ErrShort},
		{"02 80 80 80 80 10", 17, api.ErrForm},
		{"01 00", 12, api.ErrOrder},
		{"02 01 00 02 01 00", 15, api.ErrOrder},
		{"0a 01 00 0c 01 00", 15, api.ErrOrder},
		{"06 01 00 0d 01 00", 15, api.ErrOrder},
		{"00 00", 14, api.ErrShort},
		{"00 02 01 ff", 15, api.ErrName},
		{"00 02 02 61", 16, api.ErrShort},
		{"00 05 81 80 04 61 61", 14, api.ErrLong},
	} {
		refuses(t, mod(faulty, bin(c.behind)), c.at, c.e)
	}
	full := mod(faulty, note("", bytes.Repeat([]byte{7}, api.MaxModule)...))
	refuses(t, full[:api.MaxModule+1], 0, api.ErrLong)
}

// A module has at most so many bytes.
func TestMO1MaxModule(t *testing.T) {
	full := func(n int) []byte {
		b := mod(note("", bytes.Repeat([]byte{7}, n-8-1-3-1)...))
		if len(b) != n {
			t.Fatalf("a module of %d bytes, not %d", len(b), n)
		}
		return b
	}
	m := reads(t, full(api.MaxModule))
	if len(m.Customs) != 1 || len(m.Customs[0].Bytes) != api.MaxModule-13 {
		t.Errorf("customs: %d", len(m.Customs))
	}
	refuses(t, full(api.MaxModule+1), 0, api.ErrLong)
	refuses(t, make([]byte, api.MaxModule+1), 0, api.ErrLong)
}

// vectors are all sections that hold one.
func vectors() []int {
	return []int{types, imports, functions, tables, memories, tags, globals, exports, elements, bodies, datas}
}

func TestMO1Empty(t *testing.T) {
	for _, id := range inOrder() {
		cut(t, id, nil)
		cut(t, id, bin("80"))
		cut(t, id, bin("80 80 80 80"))
		faults(t, id, bin("80 80 80 80 10"), 4, api.ErrForm)
		faults(t, id, bin("ff ff ff ff ff ff"), 4, api.ErrForm)
	}
	for _, id := range vectors() {
		holds(t, id, bin("00"), api.Module{})
		holds(t, id, bin("80 00"), api.Module{})
		holds(t, id, bin("80 80 80 80 00"), api.Module{})
		cut(t, id, bin("01"))
		faults(t, id, bin("00 00"), 1, api.ErrMore)
		faults(t, id, bin("80 00 ff ff"), 2, api.ErrMore)
	}
	var all [][]byte
	for _, id := range inOrder() {
		if id != start {
			all = append(all, sec(id, bin("00")))
		}
	}
	shows(t, mod(all...), api.Module{HasCount: true})
}

// limitOf is how many elements a section's vector may have.
func limitOf(id int) int {
	switch id {
	case tables, memories:
		return 100
	}
	return 10000
}

// leastOf is the shortest element of a section's vector.
func leastOf(id int) []byte {
	return bin(map[int]string{
		types: "4e 00", imports: "00 00 00 00", functions: "00", tables: "70 00 00", memories: "00 00", tags: "00 00",
		globals: "7f 00 0b", exports: "00 00 00", elements: "01 00 00", bodies: "02 00 0b", datas: "01 00",
	}[id])
}

// numbersOf are how many elements a module's lists have.
func numbersOf(m api.Module) map[int]int {
	return map[int]int{
		types: len(m.Types), imports: len(m.Imports), functions: len(m.Funcs), tables: len(m.Tables), memories: len(m.Memories), tags: len(m.Tags),
		globals: len(m.Globals), exports: len(m.Exports), elements: len(m.Elems), bodies: len(m.Funcs), datas: len(m.Datas),
	}
}

// withPartner is a section, with the other one of functions and bodies, if it is one of them.
func withPartner(id, n int) []byte {
	s := sec(id, vec(n, leastOf(id)...))
	switch id {
	case functions:
		return mod(s, sec(bodies, vec(n, leastOf(bodies)...)))
	case bodies:
		return mod(sec(functions, vec(n, leastOf(functions)...)), s)
	}
	return mod(s)
}

func TestMO1Limits(t *testing.T) {
	for _, id := range vectors() {
		limit := limitOf(id)
		for _, n := range []int{0, 1, 2, 3, limit - 1, limit} {
			m := reads(t, withPartner(id, n))
			for of, got := range numbersOf(m) {
				want := 0
				if of == id || id == functions && of == bodies || id == bodies && of == functions {
					want = n
				}
				if got != want {
					t.Errorf("section %d of %d: %d of %d", id, n, got, of)
				}
			}
		}
		over := leb.PutU(uint64(limit + 1))
		faults(t, id, vec(limit+1, leastOf(id)...), 0, api.ErrLong)
		faults(t, id, over, 0, api.ErrLong)
		faults(t, id, longer(over, 5), 0, api.ErrLong)
		faults(t, id, append(longer(over, 4), 0xff, 0xff), 0, api.ErrLong)
		faults(t, id, bin("ff ff ff ff 0f"), 0, api.ErrLong)
		faults(t, id, bin("80 80 80 80 08"), 0, api.ErrLong)
		cut(t, id, leb.PutU(uint64(limit)))
	}
}

// one type, two, .. in a group
func group(n int) []byte { return append([]byte{0x4e}, vec(n, bin("5f 00")...)...) }

func TestMO1TypesTogether(t *testing.T) {
	lone := bin("5f 00")
	two := func(a, b []byte) []byte { return join(bin("02"), a, b) }
	takes := func(contents []byte, n int) {
		t.Helper()
		m := reads(t, mod(sec(types, contents)))
		if got := len(module.Types(m)); got != n {
			t.Errorf("%d types, not %d", got, n)
		}
	}
	takes(append(bin("01"), group(10000)...), 10000)
	takes(two(group(5000), group(5000)), 10000)
	takes(two(group(10000), group(0)), 10000)
	takes(two(group(0), group(10000)), 10000)
	takes(two(group(9999), lone), 10000)
	takes(two(lone, group(9999)), 10000)
	takes(vec(10000, lone...), 10000)
	takes(vec(5000, group(2)...), 10000)
	takes(vec(10000, bin("4e 00")...), 0)
	takes(join(leb.PutU(10000), bytes.Repeat(bin("4e 00"), 9999), group(10000)), 10000)

	big := group(10000)
	over := func(contents []byte, place int) {
		t.Helper()
		faults(t, types, contents, place, api.ErrLong)
	}
	over(append(bin("01"), group(10001)...), 2)
	over(two(group(5000), group(5001)), 1+len(group(5000))+1)
	over(two(group(5001), group(5000)), 1+len(group(5001))+1)
	over(two(big, group(1)), 1+len(big)+1)
	over(two(big, bin("4e 81 80 00 5f 00")), 1+len(big)+1)
	over(two(big, group(10000)), 1+len(big)+1)
	over(two(lone, big), 1+2+1)
	over(vec(5001, group(2)...), 2+5000*6+1)
	over(join(leb.PutU(9999), bytes.Repeat(lone, 9998), group(3)), 2+9998*2+1)
	over(two(big, bin("4e 90 4e")), 1+len(big)+1)
	over(two(big, bin("4e ff ff ff ff 0f")), 1+len(big)+1)
	// A type that stands alone has no number: its first byte is where it can't stand.
	over(two(big, lone), 1+len(big))
	over(two(big, bin("60 00 00")), 1+len(big))
	over(two(big, bin("50 01 00 5e 7f 00")), 1+len(big))
	over(join(bin("03"), big, bin("4e 00"), lone), 1+len(big)+2)
}

// What stands in a group is behind its number, and comes behind it; what can't be a group, or a number, does not.
func TestMO1TypesTogetherFirst(t *testing.T) {
	big := group(10000)
	behind := func(digits string) []byte { return join(bin("02"), big, bin(digits)) }
	at := 1 + len(big)
	faults(t, types, behind("4e 01 61"), at+1, api.ErrLong)
	faults(t, types, behind("4e 01"), at+1, api.ErrLong)
	faults(t, types, behind("4e 02 5f 00"), at+1, api.ErrLong)
	faults(t, types, behind("4e 01 5f 00 07"), at+1, api.ErrLong)
	faults(t, types, behind("5f 01 7b"), at, api.ErrLong)
	faults(t, types, behind("60"), at, api.ErrLong)
	faults(t, types, behind("5f 00 07"), at, api.ErrLong)
	faults(t, types, behind("61"), at, api.ErrForm)
	faults(t, types, behind(""), at, api.ErrShort)
	faults(t, types, behind("4e"), at+1, api.ErrShort)
	faults(t, types, behind("4e 81"), at+2, api.ErrShort)
	faults(t, types, behind("4e 81 80 80 80 10"), at+5, api.ErrForm)
	faults(t, types, behind("4e 00 07"), at+2, api.ErrMore)
	few := join(bin("02"), group(9998))
	faults(t, types, append(bytes.Clone(few), bin("4e 02 5f 00 61")...), len(few)+4, api.ErrForm)
	faults(t, types, append(bytes.Clone(few), bin("4e 02 5f 00")...), len(few)+4, api.ErrShort)
	faults(t, types, append(bytes.Clone(few), bin("5f 01 7b")...), len(few)+2, api.ErrSimd)
	faults(t, types, append(bytes.Clone(few), bin("4e 03")...), len(few)+1, api.ErrLong)
}

// The groups of one module count nothing of those of another.
func TestP5Anew(t *testing.T) {
	b := mod(sec(types, join(bin("01"), group(10000))))
	for range 2 {
		reads(t, b)
	}
	m := reads(t, mod(sec(start, bin("05"))))
	shows(t, head(), api.Module{})
	if !m.HasStart || m.Start != 5 {
		t.Errorf("Start: %v, %d", m.HasStart, m.Start)
	}
}

func TestMO1Types(t *testing.T) {
	i32 := num(api.TI32)
	function := api.CompType{Kind: api.CFunc, Params: list(i32), Results: list(num(api.TI64), refNull(api.HAny))}
	structure := api.CompType{Kind: api.CStruct, Fields: []api.Field{{Type: num(api.T8), Mut: true}, {Type: ref(1)}}}
	array := api.CompType{Kind: api.CArray, Fields: []api.Field{{Type: i32}}}
	holds(t, types, bin("01 60 01 7f 02 7e 6e"), api.Module{Types: []api.RecType{{Types: []api.SubType{{Final: true, Comp: function}}}}})
	holds(t, types, bin("04 60 01 7f 02 7e 63 6e  4e 00  4e 02 50 00 5f 02 78 01 64 01 00 4f 01 80 00 5e 7f 00  50 02 03 04 5e 7f 00"), api.Module{Types: []api.RecType{
		{Types: []api.SubType{{Final: true, Comp: function}}},
		{Explicit: true},
		{Explicit: true, Types: []api.SubType{{Comp: structure}, {Final: true, Supers: []int{0}, Comp: array}}},
		{Types: []api.SubType{{Supers: []int{3, 4}, Comp: array}}},
	}})
	faults(t, types, bin("01 61"), 1, api.ErrForm)
	faults(t, types, bin("01 7b"), 1, api.ErrForm)
	faults(t, types, bin("02 5f 00 61"), 3, api.ErrForm)
	faults(t, types, bin("01 60 01 7b 00"), 3, api.ErrSimd)
	faults(t, types, bin("01 60 e9 07"), 2, api.ErrLong)
	faults(t, types, bin("01 60 00 00 60"), 4, api.ErrMore)
	faults(t, types, bin("01 4e 01 60 00 00 60 00 00"), 6, api.ErrMore)
}

func TestMO1Imports(t *testing.T) {
	holds(t, imports, bin("01 01 61 00 00 07"), api.Module{Imports: []api.Import{{Module: "a", Extern: api.Extern{Type: 7}}}})
	holds(t, imports, bin("05 00 02 c3 a9 04 00 03  01 61 01 62 01 70 01 01 02  00 00 02 04 05  00 00 03 7e 01  01 61 01 62 00 ff ff ff ff 07"), api.Module{Imports: []api.Import{
		{Name: "é", Extern: api.Extern{Kind: api.KTag, Type: 3}},
		{Module: "a", Name: "b", Extern: api.Extern{Kind: api.KTable, Table: api.TableType{Elem: refNull(api.HFunc), Limits: api.Limits{Min: 1, Max: 2, HasMax: true}}}},
		{Extern: api.Extern{Kind: api.KMemory, Memory: api.Limits{Wide: true, Min: 5}}},
		{Extern: api.Extern{Kind: api.KGlobal, Global: api.GlobalType{Type: num(api.TI64), Mut: true}}},
		{Module: "a", Name: "b", Extern: api.Extern{Type: math.MaxInt32}},
	}})
	faults(t, imports, bin("01 00 00 05"), 3, api.ErrForm)
	faults(t, imports, bin("01 01 ff 00 00 00"), 2, api.ErrName)
	faults(t, imports, bin("01 00 02 e2 82 00 00"), 5, api.ErrName)
	faults(t, imports, bin("01 00 81 80 04"), 2, api.ErrLong)
	faults(t, imports, bin("01 00 00 00 80 80 80 80 08"), 4, api.ErrLong)
	faults(t, imports, bin("01 00 00 03 7b 00"), 4, api.ErrSimd)
	faults(t, imports, bin("02 00 00 00 00 00 00 04 01"), 8, api.ErrForm)
	faults(t, imports, bin("01 00 00 00 00 00"), 5, api.ErrMore)
	cut(t, imports, bin("01 05 61 61"))
}

// A function's type is a type's number, which has a limit wherever one stands.
func TestMO1Functions(t *testing.T) {
	code := sec(bodies, vec(3, bin("02 00 0b")...))
	m := reads(t, mod(sec(functions, bin("03 07 87 80 80 80 00 ff ff ff ff 07")), code))
	for n, want := range []int{7, 7, math.MaxInt32} {
		if len(m.Funcs) != 3 || m.Funcs[n].Type != want {
			t.Errorf("Funcs: %+v", m.Funcs)
		}
	}
	faults(t, functions, bin("01 80 80 80 80 08"), 1, api.ErrLong)
	faults(t, functions, bin("02 00 ff ff ff ff 0f"), 2, api.ErrLong)
	faults(t, functions, bin("02 00 ff ff ff ff 1f"), 6, api.ErrForm)
	faults(t, functions, bin("01 00 00"), 2, api.ErrMore)
	cut(t, functions, bin("02 07 80"))
}

func TestMO1Tables(t *testing.T) {
	funcref := api.TableType{Elem: refNull(api.HFunc), Limits: api.Limits{Min: 1}}
	wide := api.TableType{Elem: ref(3), Limits: api.Limits{Wide: true, Min: 2, Max: 4, HasMax: true}}
	holds(t, tables, bin("01 70 00 01"), api.Module{Tables: []api.Table{{Type: funcref}}})
	holds(t, tables, bin("01 40 00 70 00 01 0b"), api.Module{Tables: []api.Table{{Type: funcref, HasInit: true}}})
	holds(t, tables, bin("04 40 00 64 03 05 02 04 d2 07 0b  63 70 00 01  40 00 70 00 01 02 40 01 0b 41 07 0b  64 03 05 02 04"), api.Module{Tables: []api.Table{
		{Type: wide, HasInit: true, Init: funcs(7)[0]},
		{Type: funcref},
		{Type: funcref, HasInit: true, Init: list(api.Instr{Op: 2, Block: api.Block{Type: -1}, Body: list(api.Instr{Op: 1})}, constant(7))},
		{Type: wide},
	}})
	faults(t, tables, bin("01 7f 00 01"), 1, api.ErrForm)
	faults(t, tables, bin("01 7b 00 01"), 1, api.ErrForm)
	faults(t, tables, bin("01 40 01 70 00 01 0b"), 2, api.ErrForm)
	faults(t, tables, bin("01 40 80 00 70 00 01 0b"), 2, api.ErrForm)
	faults(t, tables, bin("01 40 70 00 01 0b"), 2, api.ErrForm)
	faults(t, tables, bin("01 40 00 40 00 70 00 01 0b"), 3, api.ErrForm)
	faults(t, tables, bin("01 40 00 7f 00 01 0b"), 3, api.ErrForm)
	faults(t, tables, bin("01 40 00 70 02 01 0b"), 4, api.ErrForm)
	faults(t, tables, bin("01 40 00 70 00 01 06"), 6, api.ErrForm)
	faults(t, tables, bin("01 40 00 70 00 01 fd 0c"), 6, api.ErrSimd)
	faults(t, tables, bin("01 40 00 70 00 01 0b 0b"), 7, api.ErrMore)
	faults(t, tables, bin("01 70 00 01 0b"), 4, api.ErrMore)
	cut(t, tables, bin("01 40"))
	cut(t, tables, bin("01 40 00"))
	cut(t, tables, bin("01 40 00 70 00 01"))
	cut(t, tables, bin("02 70 00 01"))
}

func TestMO1Memories(t *testing.T) {
	holds(t, memories, bin("01 00 01"), api.Module{Memories: []api.Limits{{Min: 1}}})
	holds(t, memories, bin("03 01 01 ff ff ff ff 0f  05 00 80 80 80 80 10  04 81 00"), api.Module{Memories: []api.Limits{
		{Min: 1, Max: math.MaxUint32, HasMax: true}, {Wide: true, Max: 1 << 32, HasMax: true}, {Wide: true, Min: 1},
	}})
	faults(t, memories, bin("01 02 01 02"), 1, api.ErrForm)
	faults(t, memories, bin("02 00 01 01 00 80 80 80 80 10"), 9, api.ErrForm)
	faults(t, memories, bin("01 00 01 00"), 3, api.ErrMore)
	cut(t, memories, bin("01 01 01"))
}

func TestMO1Tags(t *testing.T) {
	holds(t, tags, bin("01 00 07"), api.Module{Tags: []int{7}})
	holds(t, tags, bin("03 00 00 00 87 00 00 ff ff ff ff 07"), api.Module{Tags: []int{0, 7, math.MaxInt32}})
	faults(t, tags, bin("01 01 07"), 1, api.ErrForm)
	faults(t, tags, bin("02 00 07 00 80 80 80 80 08"), 4, api.ErrLong)
	faults(t, tags, bin("01 00 07 00"), 3, api.ErrMore)
	cut(t, tags, bin("01 00"))
}

func TestMO1Globals(t *testing.T) {
	holds(t, globals, bin("01 7f 00 41 07 0b"), api.Module{Globals: []api.Global{{Type: api.GlobalType{Type: num(api.TI32)}, Init: list(constant(7))}}})
	holds(t, globals, bin("03 7c 01 0b  63 6e 00 d0 6e 1a 41 01 0b  64 05 01 23 85 00 0b"), api.Module{Globals: []api.Global{
		{Type: api.GlobalType{Type: num(api.TF64), Mut: true}},
		{Type: api.GlobalType{Type: refNull(api.HAny)}, Init: list(api.Instr{Op: 0xd0, Types: list(refNull(api.HAny))}, api.Instr{Op: 0x1a}, constant(1))},
		{Type: api.GlobalType{Type: ref(5), Mut: true}, Init: list(api.Instr{Op: 0x23, X: 5})},
	}})
	faults(t, globals, bin("01 7b 00 0b"), 1, api.ErrSimd)
	faults(t, globals, bin("01 78 00 0b"), 1, api.ErrForm)
	faults(t, globals, bin("01 7f 02 0b"), 2, api.ErrForm)
	faults(t, globals, bin("01 7f 00 05 0b"), 3, api.ErrForm)
	faults(t, globals, bin("01 7f 00 fd 0b"), 3, api.ErrSimd)
	faults(t, globals, bin("02 7f 00 0b 7f 00 06 0b"), 6, api.ErrForm)
	faults(t, globals, bin("01 7f 00 0b 0b"), 4, api.ErrMore)
	cut(t, globals, bin("01 7f 00 41 07"))
	cut(t, globals, bin("01 7f 00 02 40 0b"))
}

func TestMO1Exports(t *testing.T) {
	holds(t, exports, bin("01 01 61 00 07"), api.Module{Exports: []api.Export{{Name: "a", At: 7}}})
	holds(t, exports, bin("04 00 04 00  03 e2 82 ac 03 ff ff ff ff 0f  01 61 02 01  01 61 01 81 00"), api.Module{Exports: []api.Export{
		{Kind: api.KTag}, {Name: "€", Kind: api.KGlobal, At: math.MaxUint32}, {Name: "a", Kind: api.KMemory, At: 1}, {Name: "a", Kind: api.KTable, At: 1},
	}})
	faults(t, exports, bin("01 01 61 05 07"), 3, api.ErrForm)
	faults(t, exports, bin("01 02 61 c3 00 07"), 4, api.ErrName)
	faults(t, exports, bin("01 81 80 04"), 1, api.ErrLong)
	faults(t, exports, bin("01 00 00 ff ff ff ff 10"), 7, api.ErrForm)
	faults(t, exports, bin("01 00 00 07 07"), 4, api.ErrMore)
	cut(t, exports, bin("01 01 61 00"))
}

func TestMO1Start(t *testing.T) {
	holds(t, start, bin("07"), api.Module{HasStart: true, Start: 7})
	holds(t, start, bin("00"), api.Module{HasStart: true})
	holds(t, start, bin("80 80 00"), api.Module{HasStart: true})
	holds(t, start, bin("ff ff ff ff 0f"), api.Module{HasStart: true, Start: math.MaxUint32})
	faults(t, start, bin("07 00"), 1, api.ErrMore)
	faults(t, start, bin("87 00 00 00"), 2, api.ErrMore)
}
