package entry_test

import (
	"bytes"
	"math"
	"strings"
	"testing"

	"ratchet/api"
	"ratchet/leb"
)

func TestP81Limits(t *testing.T) {
	r := readings()["Limits"]
	for _, c := range []struct {
		b string
		l api.Limits
	}{
		{"00 00", api.Limits{}},
		{"00 81 00", api.Limits{Min: 1}},
		{"00 ff ff ff ff 0f", api.Limits{Min: math.MaxUint32}},
		{"01 00 00", api.Limits{HasMax: true}},
		{"01 03 02", api.Limits{Min: 3, Max: 2, HasMax: true}},
		{"01 85 80 80 80 00 ff ff ff ff 0f", api.Limits{Min: 5, Max: math.MaxUint32, HasMax: true}},
		{"04 00", api.Limits{Wide: true}},
		{"04 80 80 80 80 10", api.Limits{Wide: true, Min: 1 << 32}},
		{"04 ff ff ff ff ff ff ff ff ff 01", api.Limits{Wide: true, Min: math.MaxUint64}},
		{"05 00 00", api.Limits{Wide: true, HasMax: true}},
		{"05 01 02", api.Limits{Wide: true, Min: 1, Max: 2, HasMax: true}},
		{"05 80 80 80 80 80 80 80 80 80 00 ff ff ff ff ff ff ff ff ff 01", api.Limits{Wide: true, Max: math.MaxUint64, HasMax: true}},
	} {
		r.reads(t, bin(c.b), c.l)
	}
	for first := range 256 {
		b := []byte{byte(first)}
		if first == 0 || first == 1 || first == 4 || first == 5 {
			r.gives(t, b, 1, api.ErrShort)
			continue
		}
		r.gives(t, b, 0, api.ErrForm)
		r.gives(t, append(b, 0, 0), 0, api.ErrForm)
	}
	for _, c := range []struct {
		b  string
		at int
		e  api.Errno
	}{
		{"00 80 80 80 80 10", 5, api.ErrForm}, {"01 80 80 80 80 10 00", 5, api.ErrForm}, {"01 00 80 80 80 80 10", 6, api.ErrForm},
		{"00 80 80 80 80 80 00", 5, api.ErrForm}, {"01 00", 2, api.ErrShort}, {"01 00 80", 3, api.ErrShort}, {"05 01", 2, api.ErrShort}, {"04 ff", 2, api.ErrShort},
		{"04 80 80 80 80 80 80 80 80 80 02", 10, api.ErrForm}, {"05 00 80 80 80 80 80 80 80 80 80 02", 11, api.ErrForm}, {"05 80 80 80 80 80 80 80 80 80 80", 10, api.ErrForm},
	} {
		r.gives(t, bin(c.b), c.at, c.e)
	}
}

func TestP81TableType(t *testing.T) {
	r := readings()["TableType"]
	r.reads(t, bin("70 00 01"), api.TableType{Elem: refNull(api.HFunc), Limits: api.Limits{Min: 1}})
	r.reads(t, bin("63 6f 01 01 02"), api.TableType{Elem: refNull(api.HExtern), Limits: api.Limits{Min: 1, Max: 2, HasMax: true}})
	r.reads(t, bin("64 83 00 05 00 07"), api.TableType{Elem: ref(3), Limits: api.Limits{Wide: true, Max: 7, HasMax: true}})
	for _, wrong := range []string{"7f", "7e", "7d", "7c", "7b", "78", "77", "40", "00", "80", "ff"} {
		r.gives(t, bin(wrong+"00 00"), 0, api.ErrForm)
	}
	r.gives(t, bin("64 7b 00 00"), 1, api.ErrForm)
	r.gives(t, bin("70"), 1, api.ErrShort)
	r.gives(t, bin("70 02 00"), 1, api.ErrForm)
	r.gives(t, bin("70 01 00"), 3, api.ErrShort)
}

func TestP81GlobalType(t *testing.T) {
	r := readings()["GlobalType"]
	for first := range 256 {
		c := byte(first)
		n, isNum := numCodes()[c]
		h, isHeap := heapCodes()[c]
		switch {
		case isNum:
			r.reads(t, []byte{c, 0}, api.GlobalType{Type: num(n)})
			r.reads(t, []byte{c, 1}, api.GlobalType{Type: num(n), Mut: true})
		case isHeap:
			r.reads(t, []byte{c, 0}, api.GlobalType{Type: refNull(h)})
			r.reads(t, []byte{0x64, c, 1}, api.GlobalType{Type: ref(h), Mut: true})
		case c == 0x7b:
			r.gives(t, []byte{c, 0}, 0, api.ErrSimd)
		case c != 0x63 && c != 0x64:
			r.gives(t, []byte{c, 0}, 0, api.ErrForm)
		}
		if c > 1 {
			r.gives(t, []byte{0x7f, c}, 1, api.ErrForm)
			r.gives(t, []byte{0x63, 0x00, c}, 2, api.ErrForm)
		}
	}
	r.gives(t, bin("7f"), 1, api.ErrShort)
	r.gives(t, bin("7f 80 00"), 1, api.ErrForm)
}

func TestP81Tag(t *testing.T) {
	r := readings()["Tag"]
	r.reads(t, bin("00 00"), 0)
	r.reads(t, bin("00 70"), 0x70)
	r.reads(t, bin("00 83 80 00"), 3)
	r.reads(t, bin("00 ff ff ff ff 07"), math.MaxInt32)
	for c := 1; c < 256; c++ {
		r.gives(t, []byte{byte(c), 0}, 0, api.ErrForm)
	}
	r.gives(t, bin("00"), 1, api.ErrShort)
	r.gives(t, bin("00 80 80 80 80 08"), 1, api.ErrLong)
	r.gives(t, bin("00 ff ff ff ff 0f"), 1, api.ErrLong)
	r.gives(t, bin("00 80 80 80 80 10"), 5, api.ErrForm)
}

// externs are extern types of each kind.
func externs() []struct {
	b string
	x api.Extern
} {
	return []struct {
		b string
		x api.Extern
	}{
		{"00 00", api.Extern{}},
		{"00 7f", api.Extern{Kind: api.KFunc, Type: 127}},
		{"00 ff ff ff ff 07", api.Extern{Kind: api.KFunc, Type: math.MaxInt32}},
		{"01 70 00 00", api.Extern{Kind: api.KTable, Table: api.TableType{Elem: refNull(api.HFunc)}}},
		{"01 64 02 05 01 02", api.Extern{Kind: api.KTable, Table: api.TableType{Elem: ref(2), Limits: api.Limits{Wide: true, Min: 1, Max: 2, HasMax: true}}}},
		{"02 00 00", api.Extern{Kind: api.KMemory}},
		{"02 04 09", api.Extern{Kind: api.KMemory, Memory: api.Limits{Wide: true, Min: 9}}},
		{"03 7f 00", api.Extern{Kind: api.KGlobal, Global: api.GlobalType{Type: num(api.TI32)}}},
		{"03 63 01 01", api.Extern{Kind: api.KGlobal, Global: api.GlobalType{Type: refNull(1), Mut: true}}},
		{"04 00 00", api.Extern{Kind: api.KTag}},
		{"04 00 40", api.Extern{Kind: api.KTag, Type: 64}},
	}
}

func TestP81Import(t *testing.T) {
	r := readings()["Import"]
	names := []struct {
		b            string
		module, name string
	}{{"00 00", "", ""}, {"01 61 01 62", "a", "b"}, {"03 e2 82 ac 80 00", "€", ""}, {"81 80 00 00 04 f0 9f 98 80", "\x00", "😀"}}
	for _, n := range names {
		head := bin(n.b)
		for _, c := range externs() {
			r.reads(t, append(bytes.Clone(head), bin(c.b)...), api.Import{Module: n.module, Name: n.name, Extern: c.x})
		}
		for kind := 5; kind < 256; kind++ {
			r.gives(t, append(bytes.Clone(head), byte(kind), 0, 0), len(head), api.ErrForm)
		}
		for _, c := range []struct {
			b  string
			at int
			e  api.Errno
		}{
			{"00 80 80 80 80 08", 1, api.ErrLong}, {"00 80 80 80 80 10", 5, api.ErrForm},
			{"01 7f 00 00", 1, api.ErrForm}, {"01 7b 00 00", 1, api.ErrForm}, {"01 70 03 00", 2, api.ErrForm},
			{"02 06 00", 1, api.ErrForm}, {"02 01 00", 3, api.ErrShort},
			{"03 7b 00", 1, api.ErrSimd}, {"03 78 00", 1, api.ErrForm}, {"03 7f 02", 2, api.ErrForm},
			{"04 01 00", 1, api.ErrForm}, {"04 00 80 80 80 80 08", 2, api.ErrLong}, {"04 00", 2, api.ErrShort}, {"", 0, api.ErrShort},
		} {
			r.gives(t, append(bytes.Clone(head), bin(c.b)...), len(head)+c.at, c.e)
		}
	}
}

func TestP81Export(t *testing.T) {
	r := readings()["Export"]
	for kind := range 5 {
		k := byte(kind)
		r.reads(t, []byte{0, k, 0}, api.Export{Kind: kind})
		r.reads(t, []byte{1, 'f', k, 0xc8, 0x81, 0}, api.Export{Name: "f", Kind: kind, At: 200})
		r.reads(t, append([]byte{2, 0xc3, 0xa9, k}, leb.PutU(math.MaxUint32)...), api.Export{Name: "é", Kind: kind, At: math.MaxUint32})
		r.reads(t, append([]byte{0, k}, leb.PutU(1<<31)...), api.Export{Kind: kind, At: 1 << 31})
		r.gives(t, []byte{1, 'f', k}, 3, api.ErrShort)
		r.gives(t, []byte{1, 'f', k, 0x80, 0x80, 0x80, 0x80, 0x10}, 7, api.ErrForm)
	}
	for kind := 5; kind < 256; kind++ {
		r.gives(t, []byte{1, 'f', byte(kind), 0}, 2, api.ErrForm)
	}
	r.gives(t, bin("01 66"), 2, api.ErrShort)
}

func TestP81Names(t *testing.T) {
	imports, exports := readings()["Import"], readings()["Export"]
	for _, c := range []struct {
		b  string
		at int
		e  api.Errno
	}{
		{"01 ff", 1, api.ErrName}, {"02 c0 80", 1, api.ErrName}, {"02 61 80", 2, api.ErrName}, {"02 e2 82", 3, api.ErrName}, {"03 ed a0 80", 2, api.ErrName},
		{"81 00 ff", 2, api.ErrName}, {"04 f4 90 80 80", 2, api.ErrName},
		{"05 61", 2, api.ErrShort}, {"01", 1, api.ErrShort}, {"80", 1, api.ErrShort}, {"ff ff 03 61", 4, api.ErrShort},
		{"80 80 80 80 10", 4, api.ErrForm}, {"81 80 04", 0, api.ErrLong}, {"ff ff ff ff 0f", 0, api.ErrLong},
	} {
		b := bin(c.b)
		imports.gives(t, b, c.at, c.e)
		exports.gives(t, b, c.at, c.e)
		imports.gives(t, append(bin("01 61"), b...), 2+c.at, c.e)
	}
	long := strings.Repeat("é", api.MaxNames/2)
	b := append(leb.PutU(api.MaxNames), long...)
	exports.reads(t, append(bytes.Clone(b), 3, 1), api.Export{Name: long, Kind: api.KGlobal, At: 1})
	both := append(append(bytes.Clone(b), b...), 0, 1)
	imports.reads(t, both, api.Import{Module: long, Name: long, Extern: api.Extern{Type: 1}})
}

// Of several faults the first from the left is told, whatever they are.
func TestP81FirstFromTheLeft(t *testing.T) {
	for _, c := range []struct {
		call, b string
		at      int
		e       api.Errno
	}{
		{"CompType", "60 02 78 7b 01 00", 2, api.ErrForm},
		{"CompType", "60 02 7b 78 01 00", 2, api.ErrSimd},
		{"CompType", "60 01 7b e9 07", 2, api.ErrSimd},
		{"CompType", "60 e9 07 7b", 1, api.ErrLong},
		{"CompType", "60 01 7f e9 07", 3, api.ErrLong},
		{"CompType", "60 01 64 80 80 80 80 08 e9 07", 3, api.ErrLong},
		{"CompType", "5f 02 78 02 7b 00", 3, api.ErrForm},
		{"CompType", "5f 02 7b 02 78 02", 2, api.ErrSimd},
		{"CompType", "5f 91 ce 00 7b", 1, api.ErrLong},
		{"SubType", "50 e9 07 80 80 80 80 10", 1, api.ErrLong},
		{"SubType", "50 01 80 80 80 80 08 61", 2, api.ErrLong},
		{"SubType", "50 01 00 61 7b", 3, api.ErrForm},
		{"RecType", "4e 91 ce 00 61", 1, api.ErrLong},
		{"RecType", "4e 02 61 60 01 7b", 2, api.ErrForm},
		{"RecType", "4e 02 60 01 7b 61", 4, api.ErrSimd},
		{"TableType", "7f 02", 0, api.ErrForm},
		{"TableType", "64 80 80 80 80 08 02", 1, api.ErrLong},
		{"GlobalType", "7b 02", 0, api.ErrSimd},
		{"GlobalType", "78 02", 0, api.ErrForm},
		{"Tag", "01 80 80 80 80 08", 0, api.ErrForm},
		{"Import", "01 ff 01 ff 05", 1, api.ErrName},
		{"Import", "01 61 01 ff 05", 3, api.ErrName},
		{"Import", "01 61 01 62 05 7b", 4, api.ErrForm},
		{"Import", "01 61 01 62 04 01 80 80 80 80 08", 5, api.ErrForm},
		{"Export", "01 ff 05", 1, api.ErrName},
		{"Export", "01 61 05 80 80 80 80 10", 2, api.ErrForm},
	} {
		readings()[c.call].gives(t, bin(c.b), c.at, c.e)
	}
}
