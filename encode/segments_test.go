package encode_test

import (
	"bytes"
	"math"
	"testing"

	"ratchet/api"
	"ratchet/encode"
	"ratchet/leb"
)

func TestP121Examples(t *testing.T) {
	gives(t, encode.Elem, api.Elem{Type: ref(api.HFunc), Init: funcs(3)}, bin("01 00 01 03"))
	gives(t, encode.Data, api.Data{Init: []byte{7}}, bin("01 01 07"))
	gives(t, encode.Func, api.Func{Body: seven()}, bin("04 00 41 07 0b"))
}

// Segments of (ref func) whose elements are functions have the first four forms, with and without elements.
func TestP121ElementsByNumbers(t *testing.T) {
	for _, c := range []struct {
		ahead string
		s     api.Elem
	}{
		{"00 41 07 0b", api.Elem{Mode: api.Active, Offset: seven()}},
		{"00 0b", api.Elem{Mode: api.Active}},
		{"01 00", api.Elem{Mode: api.Passive}},
		{"02 01 41 07 0b 00", api.Elem{Mode: api.Active, Table: 1, Offset: seven()}},
		{"02 80 01 0b 00", api.Elem{Mode: api.Active, Table: 128}},
		{"02 ff ff ff ff 0f 0b 00", api.Elem{Mode: api.Active, Table: math.MaxUint32, Offset: []api.Instr{}}},
		{"03 00", api.Elem{Mode: api.Declared}},
	} {
		s := c.s
		s.Type = ref(api.HFunc)
		gives(t, encode.Elem, s, bin(c.ahead, "00"))
		s.Init = [][]api.Instr{}
		gives(t, encode.Elem, s, bin(c.ahead, "00"))
		s.Init = funcs(0)
		gives(t, encode.Elem, s, bin(c.ahead, "01 00"))
		s.Init = funcs(3, 127, 128, math.MaxUint32, 11)
		gives(t, encode.Elem, s, bin(c.ahead, "05 03 7f 80 01 ff ff ff ff 0f 0b"))
		// Fields that no ref.func has count for nothing.
		s.Init = [][]api.Instr{{{Op: 0xd2, X: 5, Y: 6, N: 7, Body: []api.Instr{}}}}
		gives(t, encode.Elem, s, bin(c.ahead, "01 05"))
	}
}

// inits are elements, with their bytes.
type inits struct {
	init   [][]api.Instr
	digits string
}

// others are elements of which at least one is not just one ref.func.
func others() []inits {
	null := api.Instr{Op: 0xd0, Types: list(refNull(api.HFunc))}
	return []inits{
		{[][]api.Instr{nil}, "01 0b"},
		{[][]api.Instr{{}}, "01 0b"},
		{[][]api.Instr{{null}}, "01 d0 70 0b"},
		{[][]api.Instr{{function(3)}, {null}}, "02 d2 03 0b d0 70 0b"},
		{[][]api.Instr{{null}, {function(3)}}, "02 d0 70 0b d2 03 0b"},
		{[][]api.Instr{{function(3), nop()}}, "01 d2 03 01 0b"},
		{[][]api.Instr{{nop(), function(3)}}, "01 01 d2 03 0b"},
		{[][]api.Instr{{function(3), function(3)}}, "01 d2 03 d2 03 0b"},
		{[][]api.Instr{{block(function(3))}, {function(200)}}, "02 02 40 d2 03 0b 0b d2 c8 01 0b"},
	}
}

// All others have the last four; a type is left out just where it is (ref null func), active, of table 0.
func TestP121ElementsByExpressions(t *testing.T) {
	for _, c := range []struct {
		typed  api.ValType
		digits string
		alone  bool // its functions' numbers are told alone
		usual  bool // it is left out where it may be
	}{
		{refNull(api.HFunc), "70", false, true},
		{ref(api.HFunc), "64 70", true, false},
		{refNull(api.HNoFunc), "73", false, false},
		{refNull(api.HExtern), "6f", false, false},
		{ref(api.HExtern), "64 6f", false, false},
		{refNull(0), "63 00", false, false},
		{ref(0), "64 00", false, false},
		{ref(64), "64 c0 00", false, false},
		{ref(math.MaxInt32), "64 ff ff ff ff 07", false, false},
	} {
		all := others()
		if !c.alone {
			all = append(all, inits{nil, "00"}, inits{[][]api.Instr{}, "00"}, inits{funcs(3, 4), "02 d2 03 0b d2 04 0b"})
		}
		for _, i := range all {
			s := api.Elem{Type: c.typed, Init: i.init}
			gives(t, encode.Elem, s, bin("05", c.digits, i.digits))
			s.Mode = api.Declared
			gives(t, encode.Elem, s, bin("07", c.digits, i.digits))
			s.Mode, s.Offset = api.Active, seven()
			if c.usual {
				gives(t, encode.Elem, s, bin("04 41 07 0b", i.digits))
			} else {
				gives(t, encode.Elem, s, bin("06 00 41 07 0b", c.digits, i.digits))
			}
			s.Table = 300
			gives(t, encode.Elem, s, bin("06 ac 02 41 07 0b", c.digits, i.digits))
			s.Table, s.Offset = math.MaxUint32, nil
			gives(t, encode.Elem, s, bin("06 ff ff ff ff 0f 0b", c.digits, i.digits))
		}
	}
}

// What a segment says of where it goes is looked at ahead of its parts.
func TestP121ElementsModes(t *testing.T) {
	for _, typed := range []api.ValType{ref(api.HFunc), refNull(api.HFunc), ref(0), {}} {
		for _, init := range [][][]api.Instr{nil, funcs(3), {noOp()}, {tooDeep()}, many(noOp(), 10001)} {
			s := api.Elem{Type: typed, Init: init}
			for _, mode := range []int{-1, 3, 4, 256, math.MaxInt, math.MinInt} {
				s.Mode = mode
				refuses(t, encode.Elem, s, api.ErrForm)
			}
			for _, mode := range []int{api.Passive, api.Declared} {
				refuses(t, encode.Elem, api.Elem{Type: typed, Init: init, Mode: mode, Table: 1}, api.ErrForm)
				refuses(t, encode.Elem, api.Elem{Type: typed, Init: init, Mode: mode, Offset: seven()}, api.ErrForm)
				refuses(t, encode.Elem, api.Elem{Type: typed, Init: init, Mode: mode, Table: math.MaxUint32, Offset: noOp()}, api.ErrForm)
			}
		}
	}
	gives(t, encode.Elem, api.Elem{Type: ref(api.HFunc), Offset: []api.Instr{}}, bin("01 00 00"))
}

// Its parts' errors come from the left: the offset, the type, the number of elements, these.
func TestP121ElementsErrors(t *testing.T) {
	unlike := []api.ValType{{}, num(api.TI32), num(api.T8), num(99), ref(-13), refNull(-100), ref(math.MaxInt32 + 1), {Num: api.TI32, Null: true, Heap: api.HFunc}}
	for e, wrong := range refused() {
		for _, table := range []uint32{0, 1} {
			for _, typed := range append(unlike, ref(api.HFunc), refNull(api.HFunc), ref(api.HAny)) {
				for _, init := range [][][]api.Instr{nil, funcs(3), {noOp()}, {noForm()}, many(noOp(), 10001)} {
					refuses(t, encode.Elem, api.Elem{Mode: api.Active, Table: table, Offset: wrong, Type: typed, Init: init}, e)
				}
			}
			for _, typed := range unlike {
				refuses(t, encode.Elem, api.Elem{Mode: api.Active, Table: table, Type: typed, Init: [][]api.Instr{wrong}}, api.ErrForm)
			}
		}
		for _, mode := range []int{api.Passive, api.Active, api.Declared} {
			for _, typed := range unlike {
				refuses(t, encode.Elem, api.Elem{Mode: mode, Type: typed, Init: many(wrong, 10001)}, api.ErrForm)
			}
			for _, typed := range []api.ValType{ref(api.HFunc), refNull(api.HFunc), ref(api.HAny)} {
				refuses(t, encode.Elem, api.Elem{Mode: mode, Type: typed, Init: [][]api.Instr{wrong}}, e)
				refuses(t, encode.Elem, api.Elem{Mode: mode, Type: typed, Init: append(funcs(1, 2), wrong, noForm(), noOp(), tooDeep())}, e)
				refuses(t, encode.Elem, api.Elem{Mode: mode, Type: typed, Init: append([][]api.Instr{wrong}, funcs(1, 2)...)}, e)
			}
		}
	}
}

// A ref.func that code does not write is refused in segments of functions, too.
func TestP121ElementsThatMayNotBe(t *testing.T) {
	for _, wrong := range []api.Instr{
		{Op: 0xd2, Body: list(nop())}, {Op: 0xd2, Else: list(nop())}, {Op: 0xd2, HasElse: true},
	} {
		for _, typed := range []api.ValType{ref(api.HFunc), refNull(api.HFunc)} {
			refuses(t, encode.Elem, api.Elem{Type: typed, Init: append(funcs(1), list(wrong))}, api.ErrForm)
			refuses(t, encode.Elem, api.Elem{Type: typed, Init: [][]api.Instr{{wrong}, noOp()}}, api.ErrForm)
			refuses(t, encode.Elem, api.Elem{Type: typed, Init: [][]api.Instr{noOp(), {wrong}}}, api.ErrArg)
		}
	}
}

// A segment has at most so many elements, of both kinds; that comes ahead of the elements' own errors.
func TestP121ElementsLimit(t *testing.T) {
	count := leb.PutU(api.MaxFuncs)
	for _, s := range []api.Elem{{Mode: api.Passive}, {Mode: api.Declared}, {Mode: api.Active}, {Mode: api.Active, Table: 7}} {
		s.Type, s.Init = ref(api.HFunc), many(list(function(5)), api.MaxFuncs)
		b, e := encode.Elem(s)
		if !bytes.HasSuffix(b, append(count, bytes.Repeat([]byte{5}, api.MaxFuncs)...)) || e != api.OK {
			t.Errorf("%d functions: %s, %d", api.MaxFuncs, short(b), e)
		}
		s.Type = refNull(api.HFunc)
		b, e = encode.Elem(s)
		if !bytes.HasSuffix(b, append(count, bytes.Repeat([]byte{0xd2, 5, 0x0b}, api.MaxFuncs)...)) || e != api.OK {
			t.Errorf("%d expressions: %s, %d", api.MaxFuncs, short(b), e)
		}
		for _, typed := range []api.ValType{ref(api.HFunc), refNull(api.HFunc), ref(0)} {
			s.Type = typed
			for _, x := range [][]api.Instr{list(function(5)), nil, noOp(), noForm()} {
				s.Init = many(x, api.MaxFuncs+1)
				refuses(t, encode.Elem, s, api.ErrLong)
			}
		}
	}
}

func TestP121Datas(t *testing.T) {
	for _, c := range []struct {
		init   []byte
		digits string
	}{
		{nil, "00"}, {[]byte{}, "00"}, {[]byte{7}, "01 07"}, {[]byte{0, 0x0b, 255}, "03 00 0b ff"}, {bytes.Repeat([]byte{1}, 128), "80 01" + string(bytes.Repeat([]byte("01"), 128))},
	} {
		gives(t, encode.Data, api.Data{Init: c.init}, bin("01", c.digits))
		gives(t, encode.Data, api.Data{Init: c.init, Offset: []api.Instr{}}, bin("01", c.digits))
		gives(t, encode.Data, api.Data{Mode: api.Active, Init: c.init}, bin("00 0b", c.digits))
		gives(t, encode.Data, api.Data{Mode: api.Active, Init: c.init, Offset: seven()}, bin("00 41 07 0b", c.digits))
		gives(t, encode.Data, api.Data{Mode: api.Active, Memory: 1, Init: c.init, Offset: seven()}, bin("02 01 41 07 0b", c.digits))
		gives(t, encode.Data, api.Data{Mode: api.Active, Memory: 128, Init: c.init}, bin("02 80 01 0b", c.digits))
		gives(t, encode.Data, api.Data{Mode: api.Active, Memory: math.MaxUint32, Init: c.init}, bin("02 ff ff ff ff 0f 0b", c.digits))
		for e, wrong := range refused() {
			for _, memory := range []uint32{0, 1, math.MaxUint32} {
				refuses(t, encode.Data, api.Data{Mode: api.Active, Memory: memory, Init: c.init, Offset: wrong}, e)
				for _, mode := range []int{-1, api.Declared, 3, 257, math.MaxInt, math.MinInt} {
					refuses(t, encode.Data, api.Data{Mode: mode, Memory: memory, Init: c.init, Offset: wrong}, api.ErrForm)
				}
				refuses(t, encode.Data, api.Data{Memory: memory, Init: c.init, Offset: wrong}, api.ErrForm)
			}
		}
		for _, mode := range []int{-1, api.Declared, 3, 257, math.MaxInt, math.MinInt} {
			refuses(t, encode.Data, api.Data{Mode: mode, Init: c.init}, api.ErrForm)
		}
		refuses(t, encode.Data, api.Data{Memory: 1, Init: c.init}, api.ErrForm)
		refuses(t, encode.Data, api.Data{Offset: seven(), Init: c.init}, api.ErrForm)
	}
	// A segment by itself has no limit: only a module has one.
	init := make([]byte, api.MaxModule+1)
	gives(t, encode.Data, api.Data{Init: init}, append(append([]byte{1}, leb.PutU(uint64(len(init)))...), init...))
}

// What is answered is new memory.
func TestP4DataIsCopied(t *testing.T) {
	s := api.Data{Init: make([]byte, 3, 10)}
	b, _ := encode.Data(s)
	for n := range b {
		b[n] = 99
	}
	if !bytes.Equal(s.Init, make([]byte, 3)) {
		t.Errorf("Data shares its answer: %x", s.Init)
	}
}
