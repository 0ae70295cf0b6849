package module_test

import (
	"math"
	"strings"
	"testing"

	"ratchet/api"
	"ratchet/leb"
)

func elem(s api.Elem) api.Module { return api.Module{Elems: list(s)} }

func data(s api.Data) api.Module { return api.Module{Datas: list(s)} }

// Each number with which an element segment may begin, without elements, with one, with several.
func TestMO1Elements(t *testing.T) {
	seven := list(constant(7))
	exprs := [][]api.Instr{nil, {{Op: 0xd0, Types: list(refNull(api.HFunc))}}, {{Op: 1}, {Op: 0xd2, X: 3}}}
	for _, c := range []struct {
		ahead string
		want  api.Elem
		exprs bool
	}{
		{"00 41 07 0b", api.Elem{Mode: api.Active, Offset: seven, Type: ref(api.HFunc)}, false},
		{"01 00", api.Elem{Mode: api.Passive, Type: ref(api.HFunc)}, false},
		{"02 05 41 07 0b 00", api.Elem{Mode: api.Active, Table: 5, Offset: seven, Type: ref(api.HFunc)}, false},
		{"03 00", api.Elem{Mode: api.Declared, Type: ref(api.HFunc)}, false},
		{"04 41 07 0b", api.Elem{Mode: api.Active, Offset: seven, Type: refNull(api.HFunc)}, true},
		{"05 64 6e", api.Elem{Mode: api.Passive, Type: ref(api.HAny)}, true},
		{"06 05 41 07 0b 64 09", api.Elem{Mode: api.Active, Table: 5, Offset: seven, Type: ref(9)}, true},
		{"07 6f", api.Elem{Mode: api.Declared, Type: refNull(api.HExtern)}, true},
		{"82 00 ff ff ff ff 0f 0b 00", api.Elem{Mode: api.Active, Table: math.MaxUint32, Type: ref(api.HFunc)}, false},
		{"80 80 80 80 00 02 40 0b 0b", api.Elem{Mode: api.Active, Offset: list(api.Instr{Op: 2, Block: api.Block{Type: -1}}), Type: ref(api.HFunc)}, false},
		{"06 00 0b 63 70", api.Elem{Mode: api.Active, Type: refNull(api.HFunc)}, true},
		{"85 80 00 70", api.Elem{Mode: api.Passive, Type: refNull(api.HFunc)}, true},
	} {
		for _, n := range []int{0, 1, 3} {
			want, each := c.want, []string{"80 00", "07", "ff ff ff ff 0f"}
			want.Init = funcs(0, 7, math.MaxUint32)[:n]
			if c.exprs {
				want.Init, each = exprs[:n], []string{"0b", "d0 70 0b", "01 d2 03 0b"}
			}
			b := join(bin("01"), bin(c.ahead), []byte{byte(n)}, bin(strings.Join(each[:n], "")))
			holds(t, elements, b, elem(want))
			faults(t, elements, append(b, 0), len(b), api.ErrMore)
			for k := range b {
				if k > 0 {
					cut(t, elements, b[:k])
				}
			}
		}
	}
	holds(t, elements, bin("03 01 00 01 03  04 0b 01 0b  03 00 00"), api.Module{Elems: []api.Elem{
		{Type: ref(api.HFunc), Init: funcs(3)},
		{Mode: api.Active, Type: refNull(api.HFunc), Init: [][]api.Instr{nil}},
		{Mode: api.Declared, Type: ref(api.HFunc)},
	}})
}

func TestMO1ElementsWrong(t *testing.T) {
	for n := 8; n < 128; n++ {
		faults(t, elements, []byte{1, byte(n), 0, 0}, 1, api.ErrForm)
	}
	for _, digits := range []string{"08", "88 00", "80 01", "80 80 80 80 01", "81 80 80 80 08", "ff ff ff ff 0f", "84 80 80 80 0f"} {
		faults(t, elements, append(bin("01"), bin(digits)...), 1, api.ErrForm)
		faults(t, elements, append(bin("02 01 00 00"), bin(digits)...), 4, api.ErrForm)
	}
	// Where functions' kind stands, any other byte can't.
	for c := 1; c < 256; c++ {
		faults(t, elements, []byte{1, 1, byte(c), 0}, 2, api.ErrForm)
		faults(t, elements, []byte{1, 3, byte(c), 0}, 2, api.ErrForm)
		faults(t, elements, []byte{1, 2, 5, 0x0b, byte(c), 0}, 4, api.ErrForm)
	}
	faults(t, elements, bin("01 01 80 00 00"), 2, api.ErrForm)
	for _, ahead := range []string{"01 05", "01 07", "01 86 00 05 0b"} {
		b := bin(ahead)
		for _, digits := range []string{"00", "7f", "7b", "40", "78", "63 7f", "64 7b"} {
			at := len(b) + len(bin(digits)) - 1
			faults(t, elements, join(b, bin(digits), bin("00")), at, api.ErrForm)
		}
		faults(t, elements, join(b, bin("64 80 80 80 80 08 00")), len(b)+1, api.ErrLong)
	}
	// An offset stands ahead of all that is told behind it.
	faults(t, elements, bin("01 00 06 00"), 2, api.ErrForm)
	faults(t, elements, bin("01 00 fd 0b"), 2, api.ErrSimd)
	faults(t, elements, bin("01 02 05 06 01"), 3, api.ErrForm)
	faults(t, elements, bin("01 02 80 80 80 80 10 06"), 6, api.ErrForm)
	faults(t, elements, bin("01 06 05 0b 7f 01 06"), 4, api.ErrForm)
	faults(t, elements, bin("01 04 0b 02 0b 06"), 5, api.ErrForm)
	faults(t, elements, bin("01 05 70 02 0b fd 0b"), 5, api.ErrSimd)
	faults(t, elements, bin("01 01 00 02 00 80 80 80 80 10"), 9, api.ErrForm)
	// Of these only the first has functions' numbers: 0b is one, too.
	holds(t, elements, bin("01 01 00 01 0b"), elem(api.Elem{Type: ref(api.HFunc), Init: funcs(11)}))
	faults(t, elements, bin("01 05 70 01 07 0b"), 4, api.ErrForm)
}

// A segment has at most so many elements, of both kinds.
func TestMO1ElementsLimit(t *testing.T) {
	for _, c := range []struct{ ahead, element string }{
		{"01 00 0b", "07"}, {"01 01 00", "07"}, {"01 02 01 0b 00", "07"}, {"01 03 00", "07"},
		{"01 04 0b", "0b"}, {"01 05 70", "0b"}, {"01 06 01 0b 70", "0b"}, {"01 07 70", "0b"},
	} {
		ahead, element := bin(c.ahead), bin(c.element)
		m := reads(t, mod(sec(elements, ahead, vec(10000, element...))))
		if len(m.Elems) != 1 || len(m.Elems[0].Init) != 10000 {
			t.Errorf("elements behind %s: %d segments", c.ahead, len(m.Elems))
		}
		faults(t, elements, join(ahead, vec(10001, element...)), len(ahead), api.ErrLong)
		faults(t, elements, join(ahead, longer(leb.PutU(10001), 5), bin("06")), len(ahead), api.ErrLong)
		faults(t, elements, join(ahead, bin("ff ff ff ff 0f")), len(ahead), api.ErrLong)
	}
	// Each segment has as many by itself.
	two := join(bin("02 01 00"), vec(10000, 7), bin("01 00"), vec(10000, 7))
	if m := reads(t, mod(sec(elements, two))); len(m.Elems) != 2 || len(m.Elems[1].Init) != 10000 {
		t.Errorf("two segments: %d", len(m.Elems))
	}
}

func TestMO1Datas(t *testing.T) {
	seven := list(constant(7))
	for _, c := range []struct {
		ahead string
		want  api.Data
	}{
		{"00 41 07 0b", api.Data{Mode: api.Active, Offset: seven}},
		{"01", api.Data{Mode: api.Passive}},
		{"02 05 41 07 0b", api.Data{Mode: api.Active, Memory: 5, Offset: seven}},
		{"80 80 00 0b", api.Data{Mode: api.Active}},
		{"81 80 80 80 00", api.Data{Mode: api.Passive}},
		{"82 00 ff ff ff ff 0f 01 0b", api.Data{Mode: api.Active, Memory: math.MaxUint32, Offset: list(api.Instr{Op: 1})}},
	} {
		for _, behind := range []string{"00", "01 09", "03 01 00 ff", "82 80 80 80 00 0b 0b"} {
			want, bytes := c.want, bin(behind)
			want.Init = map[string][]byte{"01 09": {9}, "03 01 00 ff": {1, 0, 255}, "82 80 80 80 00 0b 0b": {11, 11}}[behind]
			b := join(bin("01"), bin(c.ahead), bytes)
			holds(t, datas, b, data(want))
			faults(t, datas, append(b, 0), len(b), api.ErrMore)
			for k := range b {
				if k > 0 {
					cut(t, datas, b[:k])
				}
			}
		}
	}
	holds(t, datas, bin("03 01 01 07  00 0b 00  02 01 0b 02 08 09"), api.Module{Datas: []api.Data{
		{Init: []byte{7}}, {Mode: api.Active}, {Mode: api.Active, Memory: 1, Init: []byte{8, 9}},
	}})
}

func TestMO1DatasWrong(t *testing.T) {
	for n := 3; n < 128; n++ {
		faults(t, datas, []byte{1, byte(n), 0x0b, 0}, 1, api.ErrForm)
	}
	for _, digits := range []string{"83 00", "80 01", "81 80 80 80 08", "ff ff ff ff 0f"} {
		faults(t, datas, append(bin("01"), bin(digits)...), 1, api.ErrForm)
		faults(t, datas, append(bin("02 01 00"), bin(digits)...), 3, api.ErrForm)
	}
	faults(t, datas, bin("01 00 06 00"), 2, api.ErrForm)
	faults(t, datas, bin("01 02 80 80 80 80 10 06"), 6, api.ErrForm)
	faults(t, datas, bin("01 02 05 fd 00"), 3, api.ErrSimd)
	faults(t, datas, bin("01 01 80 80 80 80 10"), 6, api.ErrForm)
	cut(t, datas, bin("01 01 03 01 02"))
	cut(t, datas, bin("01 01 ff ff ff ff 0f 01 02"))
	cut(t, datas, bin("01 01 80 80 80 80 08 01 02"))
	// However many bytes there are, it is not too many: only a module has a limit.
	b := mod(sec(datas, bin("01 01"), longer(leb.PutU(1000000), 5), make([]byte, 1000000)))
	if m := reads(t, b); len(m.Datas) != 1 || len(m.Datas[0].Init) != 1000000 {
		t.Errorf("a million bytes: %d segments", len(m.Datas))
	}
}
