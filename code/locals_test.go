package code_test

import (
	"bytes"
	"fmt"
	"math"
	"testing"

	"ratchet/api"
	"ratchet/code"
	"ratchet/leb"
)

func run(n uint32, v api.ValType) api.Local { return api.Local{Count: n, Type: v} }

// listed is runs as a text, in which nil and empty are the same.
func listed(l []api.Local) string { return fmt.Sprint(append([]api.Local{}, l...)) }

// holds asks Locals, and Body with an expression behind, for runs and the place behind them.
func holds(t *testing.T, b []byte, at int, next int, want ...api.Local) {
	t.Helper()
	kept := bytes.Clone(b)
	l, place, e := code.Locals(b, at)
	if listed(l) != listed(want) || place != next || e != api.OK {
		t.Errorf("Locals(%s, %d): %.200s, %d, %d, not %.200s, %d", short(b), at, listed(l), place, e, listed(want), next)
	}
	if !bytes.Equal(b, kept) {
		t.Errorf("Locals(%s, %d) changes its bytes", short(kept), at)
	}
	l, x, place, e := code.Body(inserted(b, next, 0x01, 0x0b), at)
	if listed(l) != listed(want) || told(x) != told(list(nop())) || place != next+2 || e != api.OK {
		t.Errorf("Body(%s, %d): %.200s, %s, %d, %d, not %.200s, %d", short(b), at, listed(l), sketch(x), place, e, listed(want), next+2)
	}
}

// holdsNot asks them for an error and its place.
func holdsNot(t *testing.T, b []byte, at, place int, want api.Errno) {
	t.Helper()
	l, got, e := code.Locals(b, at)
	if len(l) != 0 || got != place || e != want {
		t.Errorf("Locals(%s, %d): %.200s, %d, %d, not %d, %d", short(b), at, listed(l), got, e, place, want)
	}
	l, x, got, e := code.Body(b, at)
	if len(l) != 0 || len(x) != 0 || got != place || e != want {
		t.Errorf("Body(%s, %d): %.200s, %s, %d, %d, not %d, %d", short(b), at, listed(l), sketch(x), got, e, place, want)
	}
}

// longer is a number's bytes, as many as asked for.
func longer(n uint64, size int) []byte {
	b := leb.PutU(n)
	for len(b) < size {
		b[len(b)-1] |= 0x80
		b = append(b, 0)
	}
	return b
}

func TestP102Examples(t *testing.T) {
	holds(t, bin("02 02 7f 01 7e 0b"), 0, 5, run(2, num(api.TI32)), run(1, num(api.TI64)))
	holdsNot(t, bin("01 d1 86 03 7f"), 0, 1, api.ErrLong)
}

func TestP102Runs(t *testing.T) {
	holds(t, bin("00"), 0, 1)
	holds(t, bin("80 80 00 0b"), 0, 3)
	holds(t, bin("01 00 7f"), 0, 3, run(0, num(api.TI32)))
	holds(t, bin("fd 83 00 80 80 80 80 00 7d 81 00 64 8b 00 05 63 70 ff"), 1, 17, run(0, num(api.TF32)), run(1, ref(11)), run(5, refNull(api.HFunc)))
	holds(t, bin("03 01 7f 01 7f 01 7c"), 0, 7, run(1, num(api.TI32)), run(1, num(api.TI32)), run(1, num(api.TF64)))
	holds(t, bin("01 d0 86 03 7f"), 0, 5, run(api.MaxLocals, num(api.TI32)))
	holds(t, bin("01 d0 86 83 80 00 7f"), 0, 7, run(api.MaxLocals, num(api.TI32)))
	holds(t, bin("02 d0 86 03 7f 00 7e"), 0, 7, run(api.MaxLocals, num(api.TI32)), run(0, num(api.TI64)))
	holds(t, bin("02 cf 86 03 7f 01 7e"), 0, 7, run(api.MaxLocals-1, num(api.TI32)), run(1, num(api.TI64)))
}

func TestP102Faults(t *testing.T) {
	for _, x := range []struct {
		b     string
		place int
		e     api.Errno
	}{
		{"", 0, api.ErrShort},
		{"80", 1, api.ErrShort},
		{"01", 1, api.ErrShort},
		{"01 80", 2, api.ErrShort},
		{"01 01", 2, api.ErrShort},
		{"01 01 63", 3, api.ErrShort},
		{"02 01 7f", 3, api.ErrShort},
		{"80 80 80 80 10", 4, api.ErrForm},
		{"01 ff ff ff ff ff", 5, api.ErrForm},
		{"01 01 7b", 2, api.ErrSimd},
		{"01 01 78", 2, api.ErrForm},
		{"01 01 40", 2, api.ErrForm},
		{"01 01 64 7b", 3, api.ErrForm},
		{"01 01 63 ff ff ff ff 0f", 3, api.ErrLong},
		{"01 00 7b", 2, api.ErrSimd},
		{"d1 86 03", 0, api.ErrLong},
		{"d1 86 83 80 00", 0, api.ErrLong},
		{"ff ff ff ff 0f 01 7b", 0, api.ErrLong},
		{"01 d1 86 83 00 7f", 1, api.ErrLong},
		{"01 d1 86 03", 1, api.ErrLong},
		{"01 ff ff ff ff 0f 7f", 1, api.ErrLong},
		{"02 d0 86 03 7f 01 7f", 5, api.ErrLong},
		{"02 01 7f d0 86 03 7f", 3, api.ErrLong},
		{"02 cf 86 03 7f 02 7f", 5, api.ErrLong},
		{"02 01 7f ff ff ff ff 0f 7f", 3, api.ErrLong},
		{"03 d0 86 03 7f 00 7f 81 00 7f", 7, api.ErrLong},
	} {
		b := bin(x.b)
		holdsNot(t, b, 0, x.place, x.e)
		holdsNot(t, append(bin("fd 0b"), b...), 2, 2+x.place, x.e)
		if x.e != api.ErrShort {
			holdsNot(t, append(bytes.Clone(b), 0xff, 0x0b), 0, x.place, x.e)
		}
	}
}

// Of several faults the first from the left: a run's number is ahead of its type, a run ahead of the next.
func TestP102TheFirstFaultFromTheLeft(t *testing.T) {
	holdsNot(t, bin("01 d1 86 03 7b"), 0, 1, api.ErrLong)
	holdsNot(t, bin("02 01 7b d1 86 03 7f"), 0, 2, api.ErrSimd)
	holdsNot(t, bin("02 01 78 80 80 80 80 10 7f"), 0, 2, api.ErrForm)
	holdsNot(t, bin("02 01 7f 80 80 80 80 10 7b"), 0, 7, api.ErrForm)
	holdsNot(t, bin("d1 86 03 80 80 80 80 10"), 0, 0, api.ErrLong)
	holdsNot(t, bin("02 d1 86 03 7f"), 0, 1, api.ErrLong)
}

// manyRuns is bytes of so many runs of a number each, the number of runs in so many bytes.
func manyRuns(n int, each uint64, size int) []byte {
	b := longer(uint64(n), size)
	return append(b, bytes.Repeat(append(leb.PutU(each), 0x7c), n)...)
}

func TestP102ManyRuns(t *testing.T) {
	for _, each := range []uint64{0, 1} {
		b := manyRuns(api.MaxLocals, each, 0)
		holds(t, b, 0, len(b), many(run(uint32(each), num(api.TF64)), api.MaxLocals)...)
		for _, size := range []int{0, 4, 5} {
			holdsNot(t, manyRuns(api.MaxLocals+1, each, size), 0, 0, api.ErrLong)
		}
	}
	b := manyRuns(api.MaxLocals/2, 2, 0)
	holds(t, b, 0, len(b), many(run(2, num(api.TF64)), api.MaxLocals/2)...)
	holdsNot(t, manyRuns(api.MaxLocals/2+1, 2, 3), 0, 3+api.MaxLocals, api.ErrLong)
	holdsNot(t, manyRuns(api.MaxLocals, 2, 5), 0, 5+api.MaxLocals, api.ErrLong)
}

func TestP102Body(t *testing.T) {
	b := bin("ff 01 02 7f 02 40 0b 1a 0b fd")
	l, x, place, e := code.Body(b, 1)
	if listed(l) != listed([]api.Local{run(2, num(api.TI32))}) || told(x) != told(list(block(0x02), of(0x1a))) || place != 9 || e != api.OK {
		t.Errorf("Body(%x, 1): %v, %s, %d, %d", b, l, sketch(x), place, e)
	}
	holdsNot(t, bin("01 01 7b 06"), 0, 2, api.ErrSimd)
	for _, x := range []struct {
		b     string
		place int
		e     api.Errno
	}{{"00", 1, api.ErrShort}, {"01 01 7f 06", 3, api.ErrForm}, {"00 01 05", 2, api.ErrForm}, {"01 01 7f fd 0b", 3, api.ErrSimd}} {
		if l, body, place, e := code.Body(bin(x.b), 0); len(l) != 0 || len(body) != 0 || place != x.place || e != x.e {
			t.Errorf("Body(%s): %v, %s, %d, %d, not %d, %d", x.b, l, sketch(body), place, e, x.place, x.e)
		}
	}
}

// Instructions are counted without the locals.
func TestP102LocalsAreNoInstructions(t *testing.T) {
	b := append(bin("02 01 7f 01 7e"), bytes.Repeat([]byte{0x01}, api.MaxBody)...)
	if _, x, place, e := code.Body(append(bytes.Clone(b), 0x0b), 0); len(x) != api.MaxBody || place != len(b)+1 || e != api.OK {
		t.Errorf("Body of MaxBody instructions: %d, %d, %d", len(x), place, e)
	}
	if l, x, place, e := code.Body(append(bytes.Clone(b), 0x01, 0x0b), 0); len(l) != 0 || len(x) != 0 || place != len(b) || e != api.ErrLong {
		t.Errorf("Body of one more: %d, %d, %d", len(x), place, e)
	}
}

// putsLocals asks PutLocals for bytes, which Locals reads as what was written.
func putsLocals(t *testing.T, want []byte, l ...api.Local) {
	t.Helper()
	before := listed(l)
	if b, e := code.PutLocals(l); !bytes.Equal(b, want) || e != api.OK {
		t.Errorf("PutLocals(%.200s): %s, %d, not %s", before, short(b), e, short(want))
	}
	if listed(l) != before {
		t.Errorf("PutLocals(%.200s) changes its argument", before)
	}
	holds(t, want, 0, len(want), l...)
}

func putsNotLocals(t *testing.T, want api.Errno, l ...api.Local) {
	t.Helper()
	if b, e := code.PutLocals(l); len(b) != 0 || e != want {
		t.Errorf("PutLocals(%.200s): %s, %d, not %d", listed(l), short(b), e, want)
	}
}

func TestP103Locals(t *testing.T) {
	putsLocals(t, bin("00"))
	putsLocals(t, bin("02 02 7f 01 7e"), run(2, num(api.TI32)), run(1, num(api.TI64)))
	putsLocals(t, bin("03 00 7d 00 7d 80 01 6f"), run(0, num(api.TF32)), run(0, num(api.TF32)), run(128, refNull(api.HExtern)))
	putsLocals(t, bin("01 01 64 0b"), run(1, ref(11)))
	putsLocals(t, bin("01 d0 86 03 7f"), run(api.MaxLocals, num(api.TI32)))
	putsLocals(t, manyRuns(api.MaxLocals, 1, 0), many(run(1, num(api.TF64)), api.MaxLocals)...)
	putsLocals(t, manyRuns(api.MaxLocals, 0, 0), many(run(0, num(api.TF64)), api.MaxLocals)...)
}

func TestP103LocalsThatCantBe(t *testing.T) {
	fine, i32 := run(1, num(api.TI32)), num(api.TI32)
	for _, v := range []api.ValType{num(api.TNone), num(api.T8), num(api.T16), num(8), num(-1), ref(-13), ref(math.MaxInt32 + 1), {Num: api.TI32, Null: true}, {Num: api.TI64, Heap: 1}} {
		putsNotLocals(t, api.ErrForm, run(1, v))
		putsNotLocals(t, api.ErrForm, run(0, v))
		putsNotLocals(t, api.ErrForm, fine, run(1, v), fine)
		putsNotLocals(t, api.ErrLong, run(api.MaxLocals+1, v))
		putsNotLocals(t, api.ErrLong, run(1, v), run(api.MaxLocals, i32))
		putsNotLocals(t, api.ErrLong, run(api.MaxLocals, i32), run(1, v))
		putsNotLocals(t, api.ErrLong, many(run(0, v), api.MaxLocals+1)...)
	}
	putsNotLocals(t, api.ErrLong, run(api.MaxLocals+1, i32))
	putsNotLocals(t, api.ErrLong, run(math.MaxUint32, i32))
	putsNotLocals(t, api.ErrLong, run(1, i32), run(math.MaxUint32, i32))
	putsNotLocals(t, api.ErrLong, run(1<<31, i32), run(1<<31, i32))
	putsNotLocals(t, api.ErrLong, run(api.MaxLocals-1, i32), run(1, i32), run(1, i32))
	putsNotLocals(t, api.ErrLong, many(run(0, i32), api.MaxLocals+1)...)
	putsNotLocals(t, api.ErrLong, many(run(math.MaxUint32, i32), 1<<16)...)
}

// What Locals reads, PutLocals writes in at most as many bytes, and as itself again.
func TestP106LocalsReadAreWritten(t *testing.T) {
	taken := 0
	for size := range 8 {
		rows([]byte{0x00, 0x01, 0x02, 0x63, 0x6f, 0x80}[:max(2, min(6, 10-size))], size, func(b []byte) {
			l, place, e := code.Locals(b, 0)
			if e != api.OK {
				return
			}
			taken++
			out, e := code.PutLocals(l)
			if len(out) > place || e != api.OK {
				t.Errorf("Locals(%x): %v, written %x, %d", b, l, out, e)
			}
			holds(t, out, 0, len(out), l...)
		})
	}
	if taken < 100 {
		t.Errorf("only %d rows were taken", taken)
	}
}

func expands(t *testing.T, want []api.ValType, l ...api.Local) {
	t.Helper()
	before := listed(l)
	got, e := code.Expand(l)
	if fmt.Sprint(append([]api.ValType{}, got...)) != fmt.Sprint(append([]api.ValType{}, want...)) || e != api.OK {
		t.Errorf("Expand(%.200s): %.200s, %d, not %.200s", before, fmt.Sprint(got), e, fmt.Sprint(want))
	}
	if listed(l) != before {
		t.Errorf("Expand(%.200s) changes its argument", before)
	}
}

func TestP105Expand(t *testing.T) {
	i32, i64 := num(api.TI32), num(api.TI64)
	expands(t, nil)
	expands(t, nil, run(0, i32))
	expands(t, []api.ValType{i32, i32, i64}, run(2, i32), run(1, i64))
	expands(t, []api.ValType{i64, i32, i32, ref(3)}, run(1, i64), run(0, i64), run(1, i32), run(1, i32), run(1, ref(3)))
	expands(t, []api.ValType{num(99), {Num: api.TI32, Null: true, Heap: 5}}, run(1, num(99)), run(1, api.ValType{Num: api.TI32, Null: true, Heap: 5}))
	expands(t, many(i32, api.MaxLocals), run(api.MaxLocals, i32))
	expands(t, append(many(i32, api.MaxLocals-1), i64), run(api.MaxLocals-1, i32), run(1, i64), run(0, i32))
	expands(t, many(i64, api.MaxLocals), many(run(1, i64), api.MaxLocals)...)
	expands(t, nil, many(run(0, i64), api.MaxLocals+1)...)
	for _, l := range [][]api.Local{
		{run(api.MaxLocals+1, i32)},
		{run(api.MaxLocals, i32), run(1, i64)},
		{run(1, i64), run(api.MaxLocals, i32)},
		{run(1, i64), run(math.MaxUint32, i32)},
		{run(1<<31, i64), run(1<<31, i32)},
		many(run(1, i64), api.MaxLocals+1),
		many(run(math.MaxUint32, i64), 1<<17),
	} {
		if got, e := code.Expand(l); len(got) != 0 || e != api.ErrLong {
			t.Errorf("Expand(%.200s): %d, %d", listed(l), len(got), e)
		}
	}
}
