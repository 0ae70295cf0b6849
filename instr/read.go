package instr

import (
	"ratchet/api"
	"ratchet/entry"
	"ratchet/leb"
)

// reader goes over bytes from the left. It keeps its first fault, at whose place it stays, and reads noughts from then on.
type reader struct {
	b  []byte
	at int
	e  api.Errno
}

// fieldReaders are the methods that read each field.
func fieldReaders() [fieldCount]func(*reader, *api.Instr) {
	return [...]func(*reader, *api.Instr){
		blockField:   (*reader).block,
		catchesField: (*reader).catches,
		xField:       (*reader).x,
		yField:       (*reader).y,
		labelsField:  (*reader).labels,
		typesField:   (*reader).types,
		memField:     (*reader).mem,
		i32Field:     (*reader).i32,
		i64Field:     (*reader).i64,
		f32Field:     (*reader).f32,
		f64Field:     (*reader).f64,
		heapField:    (*reader).heap,
		castField:    (*reader).cast,
		branchField:  (*reader).branch,
		countField:   (*reader).count,
	}
}

func (r *reader) instruction() api.Instr {
	i := api.Instr{Op: r.opcode()}
	readers := fieldReaders()
	for _, f := range formFields[formOf(i.Op)] {
		readers[f](r, &i)
	}
	return i
}

// fail keeps a fault, unless there was one.
func (r *reader) fail(at int, e api.Errno) {
	if r.e == api.OK {
		r.at, r.e = at, e
	}
}

// numeral reads a number by one of leb's readers.
func numeral[T any](r *reader, read func(b []byte, at, end int) (T, int, api.Errno)) T {
	return typed(r, func(b []byte, at int) (T, int, api.Errno) { return read(b, at, len(b)) })
}

// typed reads something by one of entry's readers.
func typed[T any](r *reader, read func(b []byte, at int) (T, int, api.Errno)) (x T) {
	if r.e == api.OK {
		x, r.at, r.e = read(r.b, r.at)
	}
	return x
}

// list reads a number and so many parts.
func list[T any](r *reader, limit uint32, read func(*reader) T) []T {
	start := r.at
	n := numeral(r, leb.U32)
	if n > limit {
		r.fail(start, api.ErrLong)
	}
	var l []T
	for range n {
		if r.e != api.OK {
			return nil
		}
		l = append(l, read(r))
	}
	return l
}

func (r *reader) octet() byte {
	if r.at == len(r.b) {
		r.fail(r.at, api.ErrShort)
	}
	if r.e != api.OK {
		return 0
	}
	r.at++
	return r.b[r.at-1]
}

// below reads a byte that is below an end.
func (r *reader) below(end byte) byte {
	start := r.at
	n := r.octet()
	if n >= end {
		r.fail(start, api.ErrForm)
	}
	return n
}

func (r *reader) index() uint32 { return numeral(r, leb.U32) }

func (r *reader) opcode() int {
	start := r.at
	op := int(r.octet())
	switch op {
	case vectorPrefix:
		r.fail(start, api.ErrSimd)
	case objectPrefix, rangePrefix:
		n := r.index()
		if n > maxNumber {
			r.fail(start, api.ErrForm)
		}
		op = op<<8 + int(n)
	}
	if formOf(op) == noForm {
		r.fail(start, api.ErrForm)
	}
	return op
}

func (r *reader) block(i *api.Instr) { i.Block = typed(r, entry.BlockType) }

func (r *reader) catches(i *api.Instr) { i.Catches = list(r, api.MaxLabels, (*reader).clause) }

func (r *reader) clause() api.Catch {
	c := api.Catch{Kind: int(r.below(clauseKinds))}
	if c.Kind <= catchRef {
		c.Tag = r.index()
	}
	c.Label = r.index()
	return c
}

func (r *reader) x(i *api.Instr) { i.X = r.index() }

func (r *reader) y(i *api.Instr) { i.Y = r.index() }

func (r *reader) labels(i *api.Instr) { i.Labels = list(r, api.MaxLabels, (*reader).index) }

func (r *reader) types(i *api.Instr) { i.Types = typed(r, entry.ValTypes) }

func (r *reader) mem(i *api.Instr) {
	start := r.at
	n := r.index()
	if n > memoryBit|maxAlign {
		r.fail(start, api.ErrForm)
	}
	i.Mem.Align = n & maxAlign
	if n&memoryBit != 0 {
		i.Mem.Mem = r.index()
	}
	i.Mem.Offset = numeral(r, leb.U64)
}

func (r *reader) i32(i *api.Instr) { i.N = uint64(uint32(numeral(r, leb.S32))) }

func (r *reader) i64(i *api.Instr) { i.N = uint64(numeral(r, leb.S64)) }

func (r *reader) f32(i *api.Instr) { i.N = uint64(numeral(r, leb.F32)) }

func (r *reader) f64(i *api.Instr) { i.N = numeral(r, leb.F64) }

func (r *reader) heap(i *api.Instr) {
	i.Types = []api.ValType{reference(true, typed(r, entry.HeapType))}
}

func (r *reader) cast(i *api.Instr) {
	i.Types = []api.ValType{reference(nullByName(i.Op), typed(r, entry.HeapType))}
}

func (r *reader) branch(i *api.Instr) {
	flags := r.below(flagsEnd)
	i.X = r.index()
	first := reference(flags&firstNull != 0, typed(r, entry.HeapType))
	second := reference(flags&secondNull != 0, typed(r, entry.HeapType))
	i.Types = []api.ValType{first, second}
}

func (r *reader) count(i *api.Instr) { i.N = uint64(r.index()) }
