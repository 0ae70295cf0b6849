package encode_test

import (
	"reflect"
	"strconv"
	"testing"

	"ratchet/api"
	"ratchet/encode"
	"ratchet/instr"
)

// agree asks whether two modules are the same, from both sides.
func agree(t *testing.T, what string, want bool, a, b api.Module) {
	t.Helper()
	if encode.Same(a, b) != want || encode.Same(b, a) != want {
		t.Errorf("%s: Same is not %v:\n%s\n%s", what, want, brief(a), brief(b))
	}
}

// copied shares no memory with a value.
func copied(v reflect.Value) reflect.Value {
	out := reflect.New(v.Type()).Elem()
	switch v.Kind() {
	case reflect.Struct:
		for n := range v.NumField() {
			out.Field(n).Set(copied(v.Field(n)))
		}
	case reflect.Slice:
		for n := range v.Len() {
			out.Set(reflect.Append(out, copied(v.Index(n))))
		}
	default:
		out.Set(v)
	}
	return out
}

func copyOf[T any](x T) T { return copied(reflect.ValueOf(x)).Interface().(T) }

// changer changes one thing after another, and lays each back behind asking. It tells whether the change counts.
type changer struct {
	see func(path string, counts bool)
}

func (c changer) change(v reflect.Value, path string, counts bool, to reflect.Value) {
	before := reflect.New(v.Type()).Elem()
	before.Set(v)
	v.Set(to)
	c.see(path, counts)
	v.Set(before)
}

// all changes all that stands in a value.
func (c changer) all(v reflect.Value, path string, counts bool) {
	if x, ok := v.Interface().(api.Instr); ok {
		c.instruction(v, path, x, counts)
		return
	}
	switch v.Kind() {
	case reflect.Struct:
		for n := range v.NumField() {
			name := v.Type().Field(n).Name
			c.all(v.Field(n), path+"."+name, counts && isAsked(v.Interface(), name))
		}
	case reflect.Slice:
		c.list(v, path, counts)
	case reflect.Bool:
		c.change(v, path, counts, reflect.ValueOf(!v.Bool()))
	case reflect.String:
		for _, s := range []string{"x", v.String() + "\x00", v.String() + "x"} {
			c.change(v, path, counts, reflect.ValueOf(s))
		}
	default:
		c.change(v, path, counts, sum(v, 1))
		c.change(v, path, counts, sum(v, 0x4001))
	}
}

// sum is a number and some more, of as many bits as the number has.
func sum(v reflect.Value, more int64) reflect.Value {
	if v.CanInt() {
		return reflect.ValueOf(v.Int() + more).Convert(v.Type())
	}
	return reflect.ValueOf(v.Uint() + uint64(more)).Convert(v.Type())
}

// list takes the last element away and puts one more there; of none it changes nil to empty.
func (c changer) list(v reflect.Value, path string, counts bool) {
	n := v.Len()
	for k := range n {
		c.all(v.Index(k), path+"["+strconv.Itoa(k)+"]", counts)
	}
	if n > 0 {
		c.change(v, path+" less", counts, v.Slice(0, n-1))
		c.change(v, path+" twice", counts, reflect.Append(v.Slice3(0, n, n), v.Index(n-1)))
	} else {
		c.change(v, path+" empty", false, reflect.MakeSlice(v.Type(), 0, 1))
		c.change(v, path+" nil", false, reflect.Zero(v.Type()))
	}
	c.change(v, path+" more", counts, reflect.Append(v.Slice3(0, n, n), reflect.Zero(v.Type().Elem())))
}

// instruction changes all fields of an instruction; instr tells which count.
func (c changer) instruction(v reflect.Value, path string, x api.Instr, counts bool) {
	before := copyOf(x)
	inner := changer{func(path string, _ bool) { c.see(path, counts && !instr.Same(before, v.Interface().(api.Instr))) }}
	for n := range v.NumField() {
		inner.all(v.Field(n), path+"."+v.Type().Field(n).Name, true)
	}
}

// isAsked tells whether a field of a struct counts in it.
func isAsked(of any, name string) bool {
	switch x := of.(type) {
	case api.ValType:
		return name == "Num" || x.Num == api.TRef
	case api.Extern:
		has := []string{api.KFunc: "Type", api.KTable: "Table", api.KMemory: "Memory", api.KGlobal: "Global", api.KTag: "Type"}
		return name == "Kind" || name == has[x.Kind]
	case api.RecType:
		return name != "Explicit" || len(x.Types) != 1
	case api.Custom:
		return name != "After"
	}
	return true
}

// asked changes all that stands in a module, one thing after another, and asks whether it is still the same.
func asked(t *testing.T, m api.Module) (counting, idle int) {
	t.Helper()
	x := copyOf(m)
	see := func(path string, counts bool) {
		if counts {
			counting++
		} else {
			idle++
		}
		agree(t, path, !counts, m, x)
		agree(t, path, true, x, x)
	}
	changer{see}.all(reflect.ValueOf(&x).Elem(), "", true)
	agree(t, "nothing", true, m, x)
	return counting, idle
}

// whole is a module that has something in each field.
func whole() api.Module {
	x := newMade()
	for _, l := range inOrderOf(samples()) {
		x.lay(l...)
	}
	x.m.HasStart, x.m.Start, x.m.HasCount = true, 5, true
	x.m.Customs = letters(0, 13)
	return x.m
}

func TestP123EachField(t *testing.T) {
	asked(t, api.Module{})
	counting, idle := asked(t, whole())
	if counting < 500 || idle < 100 {
		t.Errorf("%d changes that count, %d that do not", counting, idle)
	}
	// Nothing else is asked: neither whether a field has a meaning, nor whether the module could be written.
	asked(t, api.Module{
		Start: 7,
		Types: []api.RecType{{}, {Types: list(unkind()), Explicit: true}, group(api.SubType{Supers: list(-1), Comp: api.CompType{
			Kind: 9, Params: list(num(99)), Results: list(ref(-100), num(api.TNone)), Fields: []api.Field{{Type: num(api.T16)}},
		}}, api.SubType{Comp: api.CompType{Kind: api.CStruct, Params: list(num(api.TI32)), Results: list(ref(0))}}), group()},
		Imports:  list(api.Import{Module: "\xff"}),
		Funcs:    list(api.Func{Type: -1, Locals: list(api.Local{}), Body: noOp()}),
		Tables:   list(api.Table{Init: seven()}),
		Memories: list(api.Limits{Max: 5}),
		Tags:     list(-1),
		Globals:  list(api.Global{Type: api.GlobalType{Type: num(-1)}, Init: noForm()}),
		Exports:  list(api.Export{Kind: 9}),
		Elems:    list(api.Elem{Mode: 9, Table: 1, Offset: seven(), Init: [][]api.Instr{nil, noOp()}}, api.Elem{Type: num(api.TF32)}),
		Datas:    list(api.Data{Mode: api.Declared, Memory: 1, Offset: seven(), Init: []byte{0}}),
		Customs:  list(api.Custom{Name: "\xff", After: -1}),
	})
	m := newMaker(3)
	for range 30 {
		asked(t, m.module().m)
	}
}

// Order counts in each list.
func TestP123Order(t *testing.T) {
	m := whole()
	v := reflect.ValueOf(&m).Elem()
	for n := range v.NumField() {
		if v.Field(n).Kind() != reflect.Slice {
			continue
		}
		x := copyOf(m)
		l := reflect.ValueOf(&x).Elem().Field(n)
		reflect.Swapper(l.Interface())(0, 1)
		agree(t, v.Type().Field(n).Name, false, m, x)
		reflect.Swapper(l.Interface())(0, 1)
		agree(t, v.Type().Field(n).Name, true, m, x)
	}
}

func TestP123WhatCountsForNothing(t *testing.T) {
	of := func(x api.Extern) api.Module { return api.Module{Imports: list(api.Import{Extern: x})} }
	other := api.Extern{Type: 7, Table: api.TableType{Elem: ref(3)}, Memory: api.Limits{Wide: true}, Global: api.GlobalType{Mut: true}}
	for kind := api.KFunc; kind <= api.KTag; kind++ {
		x := other
		x.Kind = kind
		agree(t, "another extern type", false, of(api.Extern{Kind: kind}), of(x))
		switch kind {
		case api.KFunc, api.KTag:
			x.Type = 0
		case api.KTable:
			x.Table = api.TableType{}
		case api.KMemory:
			x.Memory = api.Limits{}
		case api.KGlobal:
			x.Global = api.GlobalType{}
		}
		agree(t, "fields of other kinds", true, of(api.Extern{Kind: kind}), of(x))
		agree(t, "another kind", false, of(api.Extern{Kind: kind}), of(api.Extern{Kind: (kind + 1) % 5}))
	}
	groups := func(g api.RecType) api.Module { return api.Module{Types: list(g)} }
	two := list(nothing(), nothing())
	agree(t, "a group of one", true, groups(api.RecType{Types: two[:1]}), groups(api.RecType{Types: two[:1], Explicit: true}))
	agree(t, "a group of two", false, groups(api.RecType{Types: two}), groups(api.RecType{Types: two, Explicit: true}))
	agree(t, "a group of none", false, groups(api.RecType{}), groups(api.RecType{Explicit: true}))
	agree(t, "groups of one and two", false, groups(api.RecType{Types: two[:1], Explicit: true}), groups(api.RecType{Types: two, Explicit: true}))
	agree(t, "places of custom sections", true, api.Module{Customs: letters(0, 5)}, api.Module{Customs: letters(13, -1)})
	global := func(v api.ValType) api.Module {
		return api.Module{Globals: list(api.Global{Type: api.GlobalType{Type: v}})}
	}
	agree(t, "a number's Null and Heap", true, global(num(api.TI64)), global(api.ValType{Num: api.TI64, Null: true, Heap: -5}))
	agree(t, "a reference's Null", false, global(ref(3)), global(refNull(3)))
	agree(t, "a reference's Heap", false, global(ref(3)), global(ref(4)))
	code := func(l ...api.Instr) api.Module { return api.Module{Funcs: list(api.Func{Body: l})} }
	agree(t, "an index that nop does not have", true, code(nop()), code(api.Instr{Op: 0x01, X: 5}))
	agree(t, "a body", false, code(block(nop())), code(block(constant(1))))
	agree(t, "what is flat", false, code(block(nop())), code(block(), nop(), api.Instr{Op: 0x0b}))
}

// However deep blocks lie, it is told.
func TestP123Deep(t *testing.T) {
	deep := func(n uint64) api.Module {
		l := list(constant(n))
		for range 50000 {
			l = list(block(l...))
		}
		return api.Module{Globals: list(api.Global{Init: l})}
	}
	agree(t, "deep", true, deep(1), deep(1))
	agree(t, "deep", false, deep(1), deep(2))
	fails(t, api.Module{Globals: list(api.Global{Type: api.GlobalType{Type: num(api.TI32)}, Init: deep(1).Globals[0].Init})}, api.ErrLong)
}

func TestP123Strip(t *testing.T) {
	m := newMaker(4)
	for _, x := range []api.Module{{}, whole(), {Customs: letters(-1, 99)}, {Customs: []api.Custom{}}, m.module().m, m.module().m, m.module().m} {
		before := told(x)
		bare := encode.Strip(x)
		if len(bare.Customs) != 0 || told(x) != before {
			t.Errorf("Strip(%s): %s", before, brief(bare))
		}
		agree(t, "stripped", len(x.Customs) == 0, x, bare)
		bare.Customs = x.Customs
		if told(bare) != before {
			t.Errorf("Strip changes %s into %s", brief(x), brief(bare))
		}
	}
}
