package entry_test

import (
	"bytes"
	"math"
	"strings"
	"testing"

	"ratchet/api"
	"ratchet/entry"
	"ratchet/leb"
)

// puts asks a call that writes for bytes.
func puts(t *testing.T, name string, x any, digits string) {
	t.Helper()
	if b, e := writings()[name](x); !bytes.Equal(b, bin(digits)) || e != api.OK {
		t.Errorf("Put%s(%s): %s, %d, not %s", name, told(x), short(b), e, digits)
	}
}

// refused asks it for an error.
func refused(t *testing.T, name string, x any, want api.Errno) {
	t.Helper()
	if b, e := writings()[name](x); len(b) != 0 || e != want {
		t.Errorf("Put%s(%.300s): %s, %d, not %d", name, told(x), short(b), e, want)
	}
}

func TestP82Examples(t *testing.T) {
	puts(t, "ValType", refNull(api.HFunc), "70")
	puts(t, "RecType", api.RecType{Explicit: true}, "4e 00")
	puts(t, "Export", api.Export{Name: "f", Kind: api.KGlobal, At: 200}, "01 66 03 c8 01")
	refused(t, "Limits", api.Limits{Max: 3}, api.ErrForm)
}

// typeNumbers are numbers that a defined type may have, with their shortest bytes as s33 and as u32.
func typeNumbers() []struct {
	n                int
	signed, unsigned string
} {
	return []struct {
		n                int
		signed, unsigned string
	}{
		{0, "00", "00"}, {63, "3f", "3f"}, {64, "c0 00", "40"}, {0x70, "f0 00", "70"}, {127, "ff 00", "7f"}, {128, "80 01", "80 01"},
		{8191, "ff 3f", "ff 3f"}, {8192, "80 c0 00", "80 40"}, {math.MaxInt32, "ff ff ff ff 07", "ff ff ff ff 07"},
	}
}

func aboveTypes() []int {
	return []int{math.MaxInt32 + 1, math.MaxUint32, math.MaxUint32 + 1, math.MaxUint32 + 8, math.MaxInt}
}

func TestP82HeapTypes(t *testing.T) {
	for code, h := range heapCodes() {
		digits := digitsOf(code)
		puts(t, "HeapType", h, digits)
		puts(t, "ValType", refNull(h), digits)
		puts(t, "ValType", ref(h), "64"+digits)
		puts(t, "BlockType", api.Block{Type: -1, Result: refNull(h)}, digits)
		puts(t, "TableType", api.TableType{Elem: ref(h)}, "64"+digits+"00 00")
	}
	for _, c := range typeNumbers() {
		puts(t, "HeapType", c.n, c.signed)
		puts(t, "ValType", ref(c.n), "64"+c.signed)
		puts(t, "ValType", refNull(c.n), "63"+c.signed)
		puts(t, "BlockType", api.Block{Type: c.n}, c.signed)
		puts(t, "Tag", c.n, "00"+c.unsigned)
		puts(t, "Import", api.Import{Extern: api.Extern{Type: c.n}}, "00 00 00"+c.unsigned)
		puts(t, "Import", api.Import{Extern: api.Extern{Kind: api.KTag, Type: c.n}}, "00 00 04 00"+c.unsigned)
		puts(t, "RecType", alone(open(structure(), c.n)), "50 01"+c.unsigned+"5f 00")
	}
	for _, h := range append(aboveTypes(), api.HNoExn-1, -100, -101, math.MinInt32, math.MinInt) {
		refused(t, "HeapType", h, api.ErrForm)
		refused(t, "ValType", ref(h), api.ErrForm)
		refused(t, "ValType", refNull(h), api.ErrForm)
		refused(t, "BlockType", api.Block{Type: -1, Result: ref(h)}, api.ErrForm)
		refused(t, "TableType", api.TableType{Elem: refNull(h)}, api.ErrForm)
		refused(t, "GlobalType", api.GlobalType{Type: ref(h)}, api.ErrForm)
	}
}

func digitsOf(c byte) string {
	const all = "0123456789abcdef"
	return string([]byte{all[c>>4], all[c&15]})
}

func TestP82TypeNumbers(t *testing.T) {
	for _, n := range append(aboveTypes(), -1, -2, api.HNoExn, -100, math.MinInt32, math.MinInt) {
		refused(t, "Tag", n, api.ErrForm)
		refused(t, "Import", api.Import{Extern: api.Extern{Type: n}}, api.ErrForm)
		refused(t, "Import", api.Import{Extern: api.Extern{Kind: api.KTag, Type: n}}, api.ErrForm)
		refused(t, "RecType", alone(open(structure(), n)), api.ErrForm)
		refused(t, "RecType", alone(final(structure(), 0, n)), api.ErrForm)
		if n != -1 {
			refused(t, "BlockType", api.Block{Type: n}, api.ErrForm)
		}
	}
}

func TestP82ValueTypes(t *testing.T) {
	for code, n := range numCodes() {
		puts(t, "ValType", num(n), digitsOf(code))
		puts(t, "BlockType", api.Block{Type: -1, Result: num(n)}, digitsOf(code))
		puts(t, "GlobalType", api.GlobalType{Type: num(n)}, digitsOf(code)+"00")
		puts(t, "GlobalType", api.GlobalType{Type: num(n), Mut: true}, digitsOf(code)+"01")
		puts(t, "RecType", alone(final(array(mut(num(n))))), "5e"+digitsOf(code)+"01")
		refused(t, "TableType", api.TableType{Elem: num(n)}, api.ErrForm)
	}
	for code, n := range packedCodes() {
		puts(t, "RecType", alone(final(array(fixed(num(n))))), "5e"+digitsOf(code)+"00")
		puts(t, "RecType", alone(final(structure(mut(num(n))))), "5f 01"+digitsOf(code)+"01")
	}
	for _, v := range noValueTypes() {
		refused(t, "ValType", v, api.ErrForm)
		refused(t, "TableType", api.TableType{Elem: v}, api.ErrForm)
		refused(t, "GlobalType", api.GlobalType{Type: v}, api.ErrForm)
		refused(t, "GlobalType", api.GlobalType{Type: v, Mut: true}, api.ErrForm)
		refused(t, "RecType", alone(final(function([]api.ValType{v}, nil))), api.ErrForm)
		refused(t, "RecType", alone(final(function(nil, []api.ValType{num(api.TI32), v}))), api.ErrForm)
		if v != (api.ValType{}) {
			refused(t, "BlockType", api.Block{Type: -1, Result: v}, api.ErrForm)
		}
		if v != num(api.T8) && v != num(api.T16) {
			refused(t, "RecType", alone(final(array(fixed(v)))), api.ErrForm)
			refused(t, "RecType", alone(final(structure(fixed(num(api.T8)), mut(v)))), api.ErrForm)
		}
	}
}

// noValueTypes are value types that have no binary form outside of fields.
func noValueTypes() []api.ValType {
	l := []api.ValType{num(api.TNone), num(api.T8), num(api.T16), num(8), num(-1), num(256 + api.TI32), num(math.MaxInt), num(math.MinInt)}
	for n := api.TNone; n <= 8; n++ {
		if n == api.TRef {
			continue
		}
		for _, h := range []int{1, -1, api.HAny, math.MaxInt, math.MinInt} {
			l = append(l, api.ValType{Num: n, Heap: h}, api.ValType{Num: n, Null: true, Heap: h})
		}
		l = append(l, api.ValType{Num: n, Null: true})
	}
	return l
}

func TestP82BlockTypes(t *testing.T) {
	puts(t, "BlockType", api.Block{Type: -1}, "40")
	for _, v := range append(noValueTypes(), num(api.TI32), refNull(api.HFunc), ref(0)) {
		if v == (api.ValType{}) {
			continue
		}
		for _, n := range []int{0, 1, math.MaxInt32, math.MaxInt32 + 1, -2, math.MinInt} {
			refused(t, "BlockType", api.Block{Type: n, Result: v}, api.ErrForm)
		}
	}
}

func TestP82CompositeTypes(t *testing.T) {
	i32, field := []api.ValType{num(api.TI32)}, []api.Field{fixed(num(api.TI32))}
	for _, c := range []struct {
		c      api.CompType
		digits string
	}{
		{function(nil, nil), "60 00 00"},
		{function([]api.ValType{}, []api.ValType{}), "60 00 00"},
		{function(i32, nil), "60 01 7f 00"},
		{function(nil, i32), "60 00 01 7f"},
		{api.CompType{Kind: api.CFunc, Params: i32, Fields: []api.Field{}}, "60 01 7f 00"},
		{structure(), "5f 00"},
		{structure(fixed(num(api.T8)), mut(num(api.T16)), mut(ref(1))), "5f 03 78 00 77 01 64 01 01"},
		{api.CompType{Kind: api.CStruct, Params: []api.ValType{}, Results: []api.ValType{}}, "5f 00"},
		{array(mut(refNull(api.HAny))), "5e 6e 01"},
	} {
		puts(t, "RecType", alone(final(c.c)), c.digits)
		puts(t, "RecType", alone(open(c.c)), "50 00"+c.digits)
		puts(t, "RecType", alone(final(c.c, 1)), "4f 01 01"+c.digits)
		puts(t, "RecType", alone(open(c.c, 1, 300)), "50 02 01 ac 02"+c.digits)
	}
	for _, c := range []api.CompType{
		{}, {Kind: 4}, {Kind: -1}, {Kind: 256 + api.CFunc}, {Kind: math.MaxInt}, {Kind: math.MinInt},
		{Kind: 0, Params: i32}, {Kind: 4, Fields: field},
		{Kind: api.CFunc, Fields: field}, {Kind: api.CFunc, Params: i32, Results: i32, Fields: field},
		{Kind: api.CStruct, Params: i32}, {Kind: api.CStruct, Results: i32}, {Kind: api.CStruct, Results: i32, Fields: field},
		{Kind: api.CArray}, {Kind: api.CArray, Fields: many(field[0], 2)}, {Kind: api.CArray, Fields: many(field[0], api.MaxFields+1)},
		{Kind: api.CArray, Params: i32, Fields: field}, {Kind: api.CArray, Results: i32, Fields: field},
	} {
		for _, s := range []api.SubType{final(c), open(c), open(c, 1), final(c, 1)} {
			refused(t, "RecType", alone(s), api.ErrForm)
			refused(t, "RecType", api.RecType{Types: []api.SubType{final(structure()), s}, Explicit: true}, api.ErrForm)
		}
	}
}

func TestP82Groups(t *testing.T) {
	one, two := final(structure()), open(array(mut(ref(1))), 0)
	puts(t, "RecType", api.RecType{Types: []api.SubType{}, Explicit: true}, "4e 00")
	puts(t, "RecType", alone(one), "5f 00")
	puts(t, "RecType", api.RecType{Types: []api.SubType{one}, Explicit: true}, "5f 00")
	puts(t, "RecType", api.RecType{Types: []api.SubType{two}, Explicit: true}, "50 01 00 5e 64 01 01")
	puts(t, "RecType", api.RecType{Types: []api.SubType{one, two}, Explicit: true}, "4e 02 5f 00 50 01 00 5e 64 01 01")
	puts(t, "RecType", api.RecType{Types: many(one, 128), Explicit: true}, "4e 80 01"+strings.Repeat("5f 00", 128))
}

// Groups of not just one type have one form, which is written whether they were read as one or not.
func TestP82GroupsThatAreNotExplicit(t *testing.T) {
	one := final(structure())
	puts(t, "RecType", api.RecType{}, "4e 00")
	puts(t, "RecType", api.RecType{Types: []api.SubType{one, one}}, "4e 02 5f 00 5f 00")
}

func TestP82Limits(t *testing.T) {
	for _, c := range []struct {
		l      api.Limits
		digits string
	}{
		{api.Limits{}, "00 00"},
		{api.Limits{Min: math.MaxUint32}, "00 ff ff ff ff 0f"},
		{api.Limits{HasMax: true}, "01 00 00"},
		{api.Limits{Min: 128, Max: 127, HasMax: true}, "01 80 01 7f"},
		{api.Limits{Max: math.MaxUint32, HasMax: true}, "01 00 ff ff ff ff 0f"},
		{api.Limits{Wide: true}, "04 00"},
		{api.Limits{Wide: true, Min: math.MaxUint64}, "04 ff ff ff ff ff ff ff ff ff 01"},
		{api.Limits{Wide: true, Min: 1 << 32, HasMax: true}, "05 80 80 80 80 10 00"},
		{api.Limits{Wide: true, Max: math.MaxUint64, HasMax: true}, "05 00 ff ff ff ff ff ff ff ff ff 01"},
	} {
		puts(t, "Limits", c.l, c.digits)
		puts(t, "TableType", api.TableType{Elem: refNull(3), Limits: c.l}, "63 03"+c.digits)
		puts(t, "Import", api.Import{Extern: api.Extern{Kind: api.KMemory, Memory: c.l}}, "00 00 02"+c.digits)
	}
	for _, l := range []api.Limits{
		{Min: math.MaxUint32 + 1}, {Min: math.MaxUint64}, {Max: math.MaxUint32 + 1, HasMax: true}, {Max: math.MaxUint64, HasMax: true},
		{Max: 1}, {Max: math.MaxUint64}, {Wide: true, Max: 1}, {Wide: true, Max: math.MaxUint64}, {Min: math.MaxUint32 + 1, Max: 1},
	} {
		refused(t, "Limits", l, api.ErrForm)
		refused(t, "TableType", api.TableType{Elem: refNull(api.HFunc), Limits: l}, api.ErrForm)
		refused(t, "Import", api.Import{Extern: api.Extern{Kind: api.KMemory, Memory: l}}, api.ErrForm)
		refused(t, "Import", api.Import{Extern: api.Extern{Kind: api.KTable, Table: api.TableType{Elem: ref(0), Limits: l}}}, api.ErrForm)
	}
}

func TestP82Imports(t *testing.T) {
	for _, c := range externs() {
		puts(t, "Import", api.Import{Module: "a", Name: "é", Extern: c.x}, "01 61 02 c3 a9"+c.b)
	}
	for _, c := range externs() {
		for _, change := range []func(x *api.Extern){
			func(x *api.Extern) { x.Type++ },
			func(x *api.Extern) { x.Type-- },
			func(x *api.Extern) { x.Table.Elem = refNull(api.HFunc) },
			func(x *api.Extern) { x.Table.Elem.Null = true },
			func(x *api.Extern) { x.Table.Limits.HasMax = true },
			func(x *api.Extern) { x.Memory.Min = 1 },
			func(x *api.Extern) { x.Memory.Wide = true },
			func(x *api.Extern) { x.Global.Mut = true },
			func(x *api.Extern) { x.Global.Type = num(api.TI32) },
		} {
			x := c.x
			change(&x)
			// What the kind tells is as it was, so that it is something else that is changed.
			if x != c.x && ofKind(c.x.Kind, x) == ofKind(c.x.Kind, c.x) {
				refused(t, "Import", api.Import{Extern: x}, api.ErrForm)
			}
		}
	}
	whole := api.Extern{Type: 1, Table: api.TableType{Elem: ref(0)}, Memory: api.Limits{Min: 1}, Global: api.GlobalType{Type: num(api.TI32)}}
	for _, k := range []int{-1, 5, 256, 257, math.MaxInt, math.MinInt} {
		refused(t, "Import", api.Import{Extern: api.Extern{Kind: k}}, api.ErrForm)
		whole.Kind = k
		refused(t, "Import", api.Import{Extern: whole}, api.ErrForm)
	}
	refused(t, "Import", api.Import{Extern: api.Extern{Kind: api.KTable}}, api.ErrForm)
	refused(t, "Import", api.Import{Extern: api.Extern{Kind: api.KGlobal}}, api.ErrForm)
	refused(t, "Import", api.Import{Extern: api.Extern{Kind: api.KGlobal, Global: api.GlobalType{Type: num(api.T8)}}}, api.ErrForm)
}

// ofKind is what a kind tells.
func ofKind(kind int, x api.Extern) any {
	return []any{x.Type, x.Table, x.Memory, x.Global, x.Type}[kind]
}

func TestP82Exports(t *testing.T) {
	for k := range 5 {
		kind := digitsOf(byte(k))
		puts(t, "Export", api.Export{Kind: k}, "00"+kind+"00")
		puts(t, "Export", api.Export{Name: "€", Kind: k, At: 128}, "03 e2 82 ac"+kind+"80 01")
		puts(t, "Export", api.Export{Kind: k, At: math.MaxUint32}, "00"+kind+"ff ff ff ff 0f")
	}
	for _, k := range []int{-1, 5, 256, 260, math.MaxInt, math.MinInt} {
		refused(t, "Export", api.Export{Name: "f", Kind: k}, api.ErrForm)
	}
}

func TestP82Names(t *testing.T) {
	most, long := strings.Repeat("a", api.MaxNames), strings.Repeat("a", api.MaxNames+1)
	b, e := entry.PutExport(api.Export{Name: most})
	if want := append(append(leb.PutU(api.MaxNames), most...), 0, 0); !bytes.Equal(b, want) || e != api.OK {
		t.Errorf("PutExport of the longest name: %s, %d", short(b), e)
	}
	b, e = entry.PutImport(api.Import{Module: most, Name: most})
	if len(b) != 2*(3+api.MaxNames)+2 || e != api.OK {
		t.Errorf("PutImport of the longest names: %s, %d", short(b), e)
	}
	for _, c := range []struct {
		name string
		e    api.Errno
	}{{long, api.ErrLong}, {long + "\xff", api.ErrLong}, {"\xff", api.ErrName}, {"a\xe2\x82", api.ErrName}, {"\xed\xa0\x80", api.ErrName}} {
		refused(t, "Export", api.Export{Name: c.name}, c.e)
		refused(t, "Import", api.Import{Module: c.name}, c.e)
		refused(t, "Import", api.Import{Name: c.name}, c.e)
	}
}

func TestP82LimitsOfLists(t *testing.T) {
	i32, i8 := num(api.TI32), fixed(num(api.T8))
	for _, c := range []struct {
		limit int
		group func(n int) api.RecType
		size  func(n int) int
	}{
		{api.MaxParams, func(n int) api.RecType { return alone(final(function(many(i32, n), nil))) }, func(n int) int { return 1 + 2 + n + 1 }},
		{api.MaxParams, func(n int) api.RecType { return alone(final(function(nil, many(i32, n)))) }, func(n int) int { return 1 + 1 + 2 + n }},
		{api.MaxParams, func(n int) api.RecType { return alone(final(function(many(i32, 1000), many(i32, n)))) }, func(n int) int { return 1 + 2 + 1000 + 2 + n }},
		{api.MaxParams, func(n int) api.RecType { return alone(open(structure(), many(7, n)...)) }, func(n int) int { return 1 + 2 + n + 2 }},
		{api.MaxParams, func(n int) api.RecType { return alone(final(structure(), many(7, n)...)) }, func(n int) int { return 1 + 2 + n + 2 }},
		{api.MaxFields, func(n int) api.RecType { return alone(final(structure(many(i8, n)...))) }, func(n int) int { return 1 + 2 + 2*n }},
		{api.MaxTypes, func(n int) api.RecType {
			return api.RecType{Types: many(final(structure()), n), Explicit: true}
		}, func(n int) int { return 1 + 2 + 2*n }},
	} {
		for _, n := range []int{c.limit - 1, c.limit} {
			if b, e := entry.PutRecType(c.group(n)); len(b) != c.size(n) || e != api.OK {
				t.Errorf("PutRecType of %d: %s, %d", n, short(b), e)
			}
		}
		for _, n := range []int{c.limit + 1, c.limit + 2, 3 * c.limit} {
			refused(t, "RecType", c.group(n), api.ErrLong)
		}
	}
}

// Of several errors the first from the left is told, as it would be read.
func TestP82FirstFromTheLeft(t *testing.T) {
	bad, long := num(api.T8), many(num(api.TI32), api.MaxParams+1)
	noKind, tooMany := api.CompType{}, function(long, nil)
	for _, c := range []struct {
		g api.RecType
		e api.Errno
	}{
		{alone(final(function(many(bad, api.MaxParams+1), nil))), api.ErrLong},
		{alone(final(function([]api.ValType{bad}, long))), api.ErrForm},
		{alone(final(function(long, []api.ValType{bad}))), api.ErrLong},
		{alone(final(structure(many(fixed(num(0)), api.MaxFields+1)...))), api.ErrLong},
		{alone(final(api.CompType{Kind: api.CFunc, Params: long, Fields: []api.Field{fixed(bad)}})), api.ErrForm},
		{alone(final(api.CompType{Kind: api.CStruct, Params: long})), api.ErrForm},
		{alone(open(noKind, many(0, api.MaxParams+1)...)), api.ErrLong},
		{alone(open(noKind, many(-1, api.MaxParams+1)...)), api.ErrLong},
		{alone(open(tooMany, -1)), api.ErrForm},
		{alone(open(tooMany, 1, math.MaxInt32+1)), api.ErrForm},
		{api.RecType{Types: []api.SubType{final(noKind), final(tooMany)}, Explicit: true}, api.ErrForm},
		{api.RecType{Types: []api.SubType{final(tooMany), final(noKind)}, Explicit: true}, api.ErrLong},
		{api.RecType{Types: many(final(noKind), api.MaxTypes+1), Explicit: true}, api.ErrLong},
	} {
		refused(t, "RecType", c.g, c.e)
	}
	tooLong := strings.Repeat("a", api.MaxNames+1)
	for _, c := range []struct {
		i api.Import
		e api.Errno
	}{
		{api.Import{Module: "\xff", Name: tooLong, Extern: api.Extern{Kind: 5}}, api.ErrName},
		{api.Import{Module: tooLong, Name: "\xff", Extern: api.Extern{Kind: 5}}, api.ErrLong},
		{api.Import{Name: "\xff", Extern: api.Extern{Kind: 5}}, api.ErrName},
		{api.Import{Name: tooLong, Extern: api.Extern{Type: -1}}, api.ErrLong},
	} {
		refused(t, "Import", c.i, c.e)
	}
	refused(t, "Export", api.Export{Name: "\xff", Kind: 5}, api.ErrName)
	refused(t, "Export", api.Export{Name: tooLong, Kind: 5}, api.ErrLong)
}

// What is handed in stays as it is, and what is written is new memory each time.
func TestP82NewMemory(t *testing.T) {
	g := api.RecType{Types: []api.SubType{open(function([]api.ValType{num(api.TI32)}, []api.ValType{ref(1)}), 1, 2), final(structure(mut(num(api.T8))))}, Explicit: true}
	text := told(g)
	first, _ := entry.PutRecType(g)
	kept := bytes.Clone(first)
	clear(first)
	second, _ := entry.PutRecType(g)
	if told(g) != text || !bytes.Equal(second, kept) {
		t.Errorf("%s was %s; %x was %x", told(g), text, second, kept)
	}
	name, _ := entry.PutExport(api.Export{Name: "f"})
	clear(name)
	puts(t, "Export", api.Export{Name: "f"}, "01 66 00 00")
}
