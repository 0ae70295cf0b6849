package instr

import (
	"math"

	"ratchet/api"
	"ratchet/entry"
	"ratchet/leb"
)

// writer writes bytes from the left, and keeps the first error of what has none.
type writer struct {
	out []byte
	e   api.Errno
}

// fieldWriters are the methods that write each field.
func fieldWriters() [fieldCount]func(*writer, api.Instr) {
	return [...]func(*writer, api.Instr){
		blockField:   (*writer).block,
		catchesField: (*writer).catches,
		xField:       (*writer).x,
		yField:       (*writer).y,
		labelsField:  (*writer).labels,
		typesField:   (*writer).types,
		memField:     (*writer).mem,
		i32Field:     (*writer).i32,
		i64Field:     (*writer).i64,
		f32Field:     (*writer).f32,
		f64Field:     (*writer).f64,
		heapField:    (*writer).heap,
		castField:    (*writer).cast,
		branchField:  (*writer).branch,
		countField:   (*writer).count,
	}
}

func (w *writer) instruction(i api.Instr) {
	w.opcode(i.Op)
	writers := fieldWriters()
	for _, f := range formFields[formOf(i.Op)] {
		writers[f](w, i)
	}
}

func (w *writer) fail(e api.Errno) {
	if w.e == api.OK {
		w.e = e
	}
}

// need fails where an argument can't be.
func (w *writer) need(ok bool) {
	if !ok {
		w.fail(api.ErrArg)
	}
}

// atMost is asked behind a list's parts: what can't be comes ahead of what is too long.
func (w *writer) atMost(count, limit int) {
	if count > limit {
		w.fail(api.ErrLong)
	}
}

func (w *writer) put(b ...byte) { w.out = append(w.out, b...) }

// typed puts what one of entry's writers tells.
func (w *writer) typed(b []byte, e api.Errno) {
	w.need(e == api.OK)
	w.put(b...)
}

func (w *writer) unsigned(n uint64) { w.put(leb.PutU(n)...) }

func (w *writer) index(n uint32) { w.unsigned(uint64(n)) }

func (w *writer) opcode(op int) {
	w.need(formOf(op) != noForm)
	if op <= math.MaxUint8 {
		w.put(byte(op))
		return
	}
	w.put(byte(op >> 8))
	w.unsigned(uint64(op & maxNumber))
}

func (w *writer) block(i api.Instr) { w.typed(entry.PutBlockType(i.Block)) }

func (w *writer) catches(i api.Instr) {
	w.unsigned(uint64(len(i.Catches)))
	for _, c := range i.Catches {
		w.clause(c)
	}
	w.atMost(len(i.Catches), api.MaxLabels)
}

func (w *writer) clause(c api.Catch) {
	w.need(catchTag <= c.Kind && c.Kind < clauseKinds)
	w.put(byte(c.Kind))
	if c.Kind <= catchRef {
		w.index(c.Tag)
	} else {
		w.need(c.Tag == 0)
	}
	w.index(c.Label)
}

func (w *writer) x(i api.Instr) { w.index(i.X) }

func (w *writer) y(i api.Instr) { w.index(i.Y) }

func (w *writer) labels(i api.Instr) {
	w.unsigned(uint64(len(i.Labels)))
	for _, n := range i.Labels {
		w.index(n)
	}
	w.atMost(len(i.Labels), api.MaxLabels)
}

func (w *writer) types(i api.Instr) {
	w.unsigned(uint64(len(i.Types)))
	for _, t := range i.Types {
		w.typed(entry.PutValType(t))
	}
	w.atMost(len(i.Types), api.MaxParams)
}

func (w *writer) mem(i api.Instr) {
	w.need(i.Mem.Align <= maxAlign)
	if i.Mem.Mem == 0 {
		w.index(i.Mem.Align)
	} else {
		w.index(i.Mem.Align | memoryBit)
		w.index(i.Mem.Mem)
	}
	w.unsigned(i.Mem.Offset)
}

// narrow is a number that has at most 32 bits.
func (w *writer) narrow(n uint64) uint32 {
	w.need(n <= math.MaxUint32)
	return uint32(n)
}

func (w *writer) i32(i api.Instr) { w.put(leb.PutS(int64(int32(w.narrow(i.N))))...) }

func (w *writer) i64(i api.Instr) { w.put(leb.PutS(int64(i.N))...) }

func (w *writer) f32(i api.Instr) { w.put(leb.PutF32(w.narrow(i.N))...) }

func (w *writer) f64(i api.Instr) { w.put(leb.PutF64(i.N)...) }

// heaps writes the heap types of just so many references; whether these may be null stands elsewhere.
func (w *writer) heaps(l []api.ValType, count int) {
	w.need(len(l) == count)
	for _, t := range l {
		w.need(t.Num == api.TRef)
		w.typed(entry.PutHeapType(t.Heap))
	}
}

// heapOf writes the heap type of one reference, whose Null is known.
func (w *writer) heapOf(l []api.ValType, null bool) {
	w.heaps(l, 1)
	for _, t := range l {
		w.need(t.Null == null)
	}
}

func (w *writer) heap(i api.Instr) { w.heapOf(i.Types, true) }

func (w *writer) cast(i api.Instr) { w.heapOf(i.Types, nullByName(i.Op)) }

func (w *writer) branch(i api.Instr) {
	flags := byte(0)
	for n, t := range i.Types {
		if t.Null {
			flags |= firstNull << n
		}
	}
	w.put(flags)
	w.index(i.X)
	w.heaps(i.Types, 2)
}

func (w *writer) count(i api.Instr) { w.index(w.narrow(i.N)) }
