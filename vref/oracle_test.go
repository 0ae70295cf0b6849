package vref_test

import (
	"slices"
	"strings"

	"ratchet/api"
	"ratchet/instr"
	"ratchet/stack"
	"ratchet/sub"
	"ratchet/types"
)

// oracle does what the chapter's table says, word by word, on a checker that may be thrown away: at the first error it gives up by a panic with it, whatever has been done till then.
type oracle struct {
	x api.Ctx
	c *stack.Checker
	i api.Instr
}

// expect tells the error that the chapter asks for; behind one the checker is spoilt.
func expect(x api.Ctx, c *stack.Checker, i api.Instr) (e api.Errno) {
	defer func() {
		if r := recover(); r != nil {
			e = r.(api.Errno)
		}
	}()
	o := oracle{x, c, i}
	o.step(instr.Name(i.Op))
	return api.OK
}

// ask gives up with an error.
func ask(e api.Errno) {
	if e != api.OK {
		panic(e)
	}
}

// that gives up with an error where something does not hold.
func that(holds bool, e api.Errno) {
	if !holds {
		panic(e)
	}
}

// named is what a number names in a list.
func named[T any](l []T, n uint32) T {
	that(uint64(n) < uint64(len(l)), api.ErrIndex)
	return l[n]
}

// pop is PopType.
func (o oracle) pop(want api.ValType) api.ValType {
	v, e := o.c.PopType(want)
	ask(e)
	return v
}

func (o oracle) pops(l ...api.ValType) {
	for _, v := range slices.Backward(l) {
		o.pop(v)
	}
}

func (o oracle) push(v api.ValType) { ask(o.c.Push(v)) }

// reference is an operand that is a reference, or none.
func (o oracle) reference() api.ValType {
	v, e := o.c.Pop()
	ask(e)
	that(v.Num == api.TRef || v.Num == api.TNone, api.ErrType)
	return v
}

// there gives up where a type speaks of one that there isn't.
func (o oracle) there(v api.ValType) {
	that(v.Num == api.TRef && v.Heap >= -12 && v.Heap < types.Count(o.x.Types), api.ErrIndex)
}

// matches gives up where one type does not match another.
func (o oracle) matches(a, b api.ValType) { that(sub.Val(o.x.Types, a, b), api.ErrType) }

// kind is a defined type of a kind.
func (o oracle) kind(n uint32, kind int) []api.Field {
	that(int64(n) < int64(types.Count(o.x.Types)), api.ErrIndex)
	s, _, _, _ := types.At(o.x.Types, int(n))
	that(s.Comp.Kind == kind, api.ErrKind)
	return s.Comp.Fields
}

// array is the element of an array type.
func (o oracle) array(n uint32) api.Field { return o.kind(n, api.CArray)[0] }

// Operands that come often.
func i32() api.ValType                 { return val("i32") }
func (o oracle) nullable() api.ValType { return ref(true, int(o.i.X)) }
func (o oracle) made() api.ValType     { return ref(false, int(o.i.X)) }

func (o oracle) step(name string) {
	part, what, _ := strings.Cut(name, ".")
	switch part {
	case "ref":
		o.references(what)
	case "struct":
		o.structs(what)
	case "array":
		o.makes(what)
		o.ranges(what)
		o.elements(what)
	case "br_on_cast", "br_on_cast_fail":
		o.branch(name)
	case "any":
		v := o.pop(val("(ref null extern)"))
		o.push(ref(v.Num != api.TNone && v.Null, api.HAny))
	case "extern":
		v := o.pop(val("(ref null any)"))
		o.push(ref(v.Num != api.TNone && v.Null, api.HExtern))
	case "i31":
		o.pops(val("(ref null i31)"))
		o.push(i32())
	default:
		panic(api.ErrNone)
	}
}

func (o oracle) references(what string) {
	switch what {
	case "null":
		that(len(o.i.Types) >= 1, api.ErrArg)
		o.there(o.i.Types[0])
		o.push(ref(true, o.i.Types[0].Heap))
	case "func":
		n := named(o.x.Funcs, o.i.X)
		that(int(o.i.X) < len(o.x.Refs) && o.x.Refs[o.i.X], api.ErrRef)
		o.push(ref(false, n))
	case "is_null":
		o.reference()
		o.push(i32())
	case "as_non_null":
		v := o.reference()
		if v.Num != api.TNone {
			v.Null = false
		}
		o.push(v)
	case "eq":
		o.pops(val("(ref null eq)"), val("(ref null eq)"))
		o.push(i32())
	case "i31":
		o.pops(i32())
		o.push(val("(ref i31)"))
	default:
		o.cast(what)
	}
}

func (o oracle) cast(what string) {
	that(len(o.i.Types) >= 1, api.ErrArg)
	v := o.i.Types[0]
	o.there(v)
	top, e := sub.Top(o.x.Types, v.Heap)
	ask(e)
	o.pops(ref(true, top))
	if what == "test" || what == "test_null" {
		o.push(i32())
	} else {
		o.push(v)
	}
}

// packed gives up where a field is packed, or not, other than the name asks.
func packed(what string, f api.Field) {
	ends := strings.HasSuffix(what, "_s") || strings.HasSuffix(what, "_u")
	that(ends == (f.Type.Num == api.T8 || f.Type.Num == api.T16), api.ErrPacked)
}

func (o oracle) structs(what string) {
	l := o.kind(o.i.X, api.CStruct)
	switch what {
	case "new":
		for _, f := range slices.Backward(l) {
			o.pop(types.Unpack(f.Type))
		}
		o.push(o.made())
	case "new_default":
		for _, f := range l {
			that(types.Default(f.Type), api.ErrDefault)
		}
		o.push(o.made())
	case "set":
		f := named(l, o.i.Y)
		that(f.Mut, api.ErrMutable)
		o.pops(o.nullable(), types.Unpack(f.Type))
	default:
		f := named(l, o.i.Y)
		packed(what, f)
		o.pops(o.nullable())
		o.push(types.Unpack(f.Type))
	}
}

func (o oracle) makes(what string) {
	switch what {
	case "new":
		o.pops(types.Unpack(o.array(o.i.X).Type), i32())
	case "new_default":
		that(types.Default(o.array(o.i.X).Type), api.ErrDefault)
		o.pops(i32())
	case "new_fixed":
		f := o.array(o.i.X)
		that(o.i.N <= 10000, api.ErrLong)
		for range o.i.N {
			o.pop(types.Unpack(f.Type))
		}
	case "new_data":
		that(o.array(o.i.X).Type.Num != api.TRef, api.ErrBits)
		that(int64(o.i.Y) < int64(o.x.Datas), api.ErrIndex)
		o.pops(i32(), i32())
	case "new_elem":
		f := o.array(o.i.X)
		o.matches(named(o.x.Elems, o.i.Y), f.Type)
		o.pops(i32(), i32())
	default:
		return
	}
	o.push(o.made())
}

func (o oracle) ranges(what string) {
	switch what {
	case "fill":
		f := o.array(o.i.X)
		that(f.Mut, api.ErrMutable)
		o.pops(o.nullable(), i32(), types.Unpack(f.Type), i32())
	case "copy":
		to := o.array(o.i.X)
		from := o.array(o.i.Y)
		that(to.Mut, api.ErrMutable)
		o.matches(from.Type, to.Type)
		o.pops(o.nullable(), i32(), ref(true, int(o.i.Y)), i32(), i32())
	case "init_data":
		f := o.array(o.i.X)
		that(f.Mut, api.ErrMutable)
		that(f.Type.Num != api.TRef, api.ErrBits)
		that(int64(o.i.Y) < int64(o.x.Datas), api.ErrIndex)
		o.pops(o.nullable(), i32(), i32(), i32())
	case "init_elem":
		f := o.array(o.i.X)
		that(f.Mut, api.ErrMutable)
		o.matches(named(o.x.Elems, o.i.Y), f.Type)
		o.pops(o.nullable(), i32(), i32(), i32())
	}
}

func (o oracle) elements(what string) {
	switch what {
	case "get", "get_s", "get_u":
		f := o.array(o.i.X)
		packed(what, f)
		o.pops(o.nullable(), i32())
		o.push(types.Unpack(f.Type))
	case "set":
		f := o.array(o.i.X)
		that(f.Mut, api.ErrMutable)
		o.pops(o.nullable(), i32(), types.Unpack(f.Type))
	case "len":
		o.pops(val("(ref null array)"))
		o.push(i32())
	}
}

func (o oracle) branch(name string) {
	that(len(o.i.Types) >= 2, api.ErrArg)
	a, b := o.i.Types[0], o.i.Types[1]
	l, e := o.c.Label(o.i.X)
	ask(e)
	that(len(l) > 0 && l[len(l)-1].Num == api.TRef, api.ErrType)
	last, ahead := l[len(l)-1], l[:len(l)-1]
	o.there(a)
	o.there(b)
	o.matches(b, a)
	rest := a
	if b.Null {
		rest.Null = false
	}
	if name == "br_on_cast_fail" {
		o.matches(rest, last)
	} else {
		o.matches(b, last)
	}
	o.pop(a)
	o.pops(ahead...)
	for _, v := range ahead {
		o.push(v)
	}
	if name == "br_on_cast_fail" {
		o.push(b)
	} else {
		o.push(rest)
	}
}
