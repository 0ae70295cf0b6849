package encode_test

import (
	"bytes"
	"math"
	"strings"
	"testing"

	"ratchet/api"
	"ratchet/encode"
)

func TestP121Bodies(t *testing.T) {
	i32, any64 := num(api.TI32), refNull(64)
	for _, c := range []struct {
		f      api.Func
		digits string
	}{
		{api.Func{}, "02 00 0b"},
		{api.Func{Locals: []api.Local{}, Body: []api.Instr{}}, "02 00 0b"},
		{api.Func{Locals: list(api.Local{Count: 2, Type: i32})}, "04 01 02 7f 0b"},
		{api.Func{Locals: []api.Local{{Count: 0, Type: i32}, {Count: 1, Type: i32}, {Count: 128, Type: any64}}}, "0b 03 00 7f 01 7f 80 01 63 c0 00 0b"},
		{api.Func{Body: list(nop(), block(nop()), constant(math.MaxUint32))}, "09 00 01 02 40 01 0b 41 7f 0b"},
		{api.Func{Body: list(api.Instr{Op: 0x04, Block: api.Block{Type: 3}, HasElse: true, Else: list(nop())})}, "07 00 04 03 05 01 0b 0b"},
	} {
		gives(t, encode.Func, c.f, bin(c.digits))
		// Its type stands elsewhere, whatever it is.
		for _, n := range []int{1, -1, math.MaxInt32, math.MaxInt, math.MinInt} {
			f := c.f
			f.Type = n
			gives(t, encode.Func, f, bin(c.digits))
		}
	}
	// A size of one byte, and of two.
	gives(t, encode.Func, api.Func{Body: many(nop(), 125)}, bin("7f 00", strings.Repeat("01", 125), "0b"))
	gives(t, encode.Func, api.Func{Body: many(nop(), 126)}, bin("80 01 00", strings.Repeat("01", 126), "0b"))
}

// The locals' error comes ahead of the expression's.
func TestP121BodiesErrors(t *testing.T) {
	i32 := num(api.TI32)
	for e, wrong := range refused() {
		refuses(t, encode.Func, api.Func{Body: wrong}, e)
		refuses(t, encode.Func, api.Func{Locals: list(api.Local{Count: 1, Type: i32}), Body: wrong}, e)
		refuses(t, encode.Func, api.Func{Type: -1, Body: wrong}, e)
		for _, l := range [][]api.Local{{{}}, {{Count: 1, Type: i32}, {Type: num(api.T8)}}, {{Type: api.ValType{Num: api.TI32, Null: true}}}, {{Type: ref(-13)}}} {
			refuses(t, encode.Func, api.Func{Locals: l, Body: wrong}, api.ErrForm)
			refuses(t, encode.Func, api.Func{Locals: l}, api.ErrForm)
		}
		for _, l := range [][]api.Local{{{Count: 50001}}, {{Count: 50000, Type: i32}, {Count: 1, Type: i32}}, {{Count: math.MaxUint32}, {Count: math.MaxUint32}}, many(api.Local{}, 50001)} {
			refuses(t, encode.Func, api.Func{Locals: l, Body: wrong}, api.ErrLong)
			refuses(t, encode.Func, api.Func{Locals: l}, api.ErrLong)
		}
	}
	gives(t, encode.Func, api.Func{Locals: list(api.Local{Count: 50000, Type: i32})}, bin("06 01 d0 86 03 7f 0b"))
	b, e := encode.Func(api.Func{Locals: many(api.Local{Type: i32}, 50000)})
	if len(b) != 3+3+100000+1 || e != api.OK {
		t.Errorf("50000 runs: %s, %d", short(b), e)
	}
	b, e = encode.Func(api.Func{Body: many(nop(), api.MaxBody)})
	if len(b) != 3+1+api.MaxBody+1 || e != api.OK {
		t.Errorf("the longest body: %s, %d", short(b), e)
	}
	refuses(t, encode.Func, api.Func{Body: many(nop(), api.MaxBody+1)}, api.ErrLong)
}

func TestP121Types(t *testing.T) {
	open := api.SubType{Supers: list(7), Comp: api.CompType{Kind: api.CStruct}}
	gives(t, encode.Type, nil, bin("00"))
	gives(t, encode.Type, []api.RecType{}, bin("00"))
	gives(t, encode.Type, list(group(nothing())), bin("01 60 00 00"))
	gives(t, encode.Type, list(api.RecType{Types: list(nothing()), Explicit: true}), bin("01 60 00 00"))
	gives(t, encode.Type, list(group()), bin("01 4e 00"))
	gives(t, encode.Type, list(api.RecType{}), bin("01 4e 00"))
	gives(t, encode.Type, list(group(nothing(), open)), bin("01 4e 02 60 00 00 50 01 07 5f 00"))
	gives(t, encode.Type, list(api.RecType{Types: list(nothing(), open)}), bin("01 4e 02 60 00 00 50 01 07 5f 00"))
	gives(t, encode.Type, list(group(open), group(), group(nothing())), bin("03 50 01 07 5f 00 4e 00 60 00 00"))
}

func TestP121TypesErrors(t *testing.T) {
	long := api.SubType{Final: true, Comp: api.CompType{Kind: api.CFunc, Params: many(num(api.TI32), api.MaxParams+1)}}
	refuses(t, encode.Type, list(group(unkind())), api.ErrForm)
	refuses(t, encode.Type, list(group(long)), api.ErrLong)
	refuses(t, encode.Type, list(group(nothing()), group(), group(nothing(), unkind()), group(long)), api.ErrForm)
	refuses(t, encode.Type, list(group(nothing()), group(long), group(nothing(), unkind())), api.ErrLong)
}

// The number of groups comes ahead of all that is in them, the number of all types behind it.
func TestP121TypesLimit(t *testing.T) {
	full := func(n int) api.RecType { return group(many(nothing(), n)...) }
	gives(t, encode.Type, many(group(), 10000), append(bin("90 4e"), bytes.Repeat(bin("4e 00"), 10000)...))
	gives(t, encode.Type, many(group(nothing()), 10000), append(bin("90 4e"), bytes.Repeat(bin("60 00 00"), 10000)...))
	gives(t, encode.Type, list(full(10000)), append(bin("01 4e 90 4e"), bytes.Repeat(bin("60 00 00"), 10000)...))
	gives(t, encode.Type, append(many(group(), 9999), full(10000)), bytes.Join([][]byte{bin("90 4e"), bytes.Repeat(bin("4e 00"), 9999), bin("4e 90 4e"), bytes.Repeat(bin("60 00 00"), 10000)}, nil))
	if b, e := encode.Type(list(full(5000), full(4999), group(nothing()), group())); len(b) != 1+2*3+30000+2 || e != api.OK {
		t.Errorf("10000 types of four groups: %s, %d", short(b), e)
	}
	for _, l := range [][]api.RecType{
		many(group(), 10001), many(group(nothing()), 10001), list(full(10001)), list(full(10000), group(nothing())),
		list(full(5000), group(), full(5001)), list(full(6000), full(6000)), append(many(group(nothing()), 9999), full(2)),
	} {
		refuses(t, encode.Type, l, api.ErrLong)
	}
	refuses(t, encode.Type, append(list(group(unkind())), many(group(), 10000)...), api.ErrLong)
	refuses(t, encode.Type, list(full(10000), group(nothing()), group(unkind())), api.ErrForm)
	refuses(t, encode.Type, list(full(6000), full(6000), group(nothing(), unkind())), api.ErrForm)
	refuses(t, encode.Type, list(group(append(many(nothing(), 10000), unkind())...), group(unkind())), api.ErrLong)
	refuses(t, encode.Type, append(many(group(nothing()), 9999), group(nothing(), unkind())), api.ErrForm)
}
