package vmod

import (
	"ratchet/api"
	"ratchet/module"
	"ratchet/scope"
	"ratchet/section"
	"ratchet/sub"
	"ratchet/types"
	"ratchet/vctl"
)

// checking is a module that is asked section by section.
type checking struct {
	m        api.Module
	x        api.Ctx
	types    []api.SubType
	imported int            // how many globals
	firsts   map[string]int // the number of the first export of each name
}

func newChecking(m api.Module) *checking {
	k := &checking{m: m, x: Context(m), types: module.Types(m), firsts: map[string]int{}}
	k.imported = len(k.x.Globals) - len(m.Globals)
	for n, x := range m.Exports {
		if _, ok := k.firsts[x.Name]; !ok {
			k.firsts[x.Name] = n
		}
	}
	return k
}

// row is a section whose parts are asked one by one.
type row struct {
	id, count int
	check     func(n int) error
}

// rows are the sections in the order in which they are asked.
func (k *checking) rows() []row {
	start := 0
	if k.m.HasStart {
		start = 1
	}
	return []row{
		{section.Type, len(k.types), k.defined},
		{section.Import, len(k.m.Imports), k.imports},
		{section.Function, len(k.m.Funcs), k.function},
		{section.Table, len(k.m.Tables), k.table},
		{section.Memory, len(k.m.Memories), k.memory},
		{section.Tag, len(k.m.Tags), k.tag},
		{section.Global, len(k.m.Globals), k.global},
		{section.Export, len(k.m.Exports), k.export},
		{section.Start, start, k.start},
		{section.Element, len(k.m.Elems), k.elem},
		{section.Code, len(k.m.Funcs), k.code},
		{section.Data, len(k.m.Datas), k.data},
	}
}

// whole tells the module's first fault.
func (k *checking) whole() error {
	// How types are declared is asked of all of them ahead of what each is.
	if n, e := sub.Decl(k.m.Types); e != api.OK {
		return partFault{section.Type, n, e}
	}
	for _, r := range k.rows() {
		for n := range r.count {
			if err := r.check(n); err != nil {
				return partFault{r.id, n, err}
			}
		}
	}
	return nil
}

func (k *checking) defined(n int) error {
	if !canBeComp(k.types[n].Comp) {
		return api.ErrForm
	}
	return nil
}

func (k *checking) imports(n int) error {
	switch x := k.m.Imports[n].Extern; x.Kind {
	case api.KFunc:
		return because(function(k.x, x.Type))
	case api.KTable:
		return because(table(k.x, x.Table))
	case api.KMemory:
		return because(memory(x.Memory))
	case api.KGlobal:
		return because(global(k.x, x.Global))
	case api.KTag:
		return because(tag(k.x, x.Type))
	}
	return api.ErrForm
}

func (k *checking) function(n int) error { return because(function(k.x, k.m.Funcs[n].Type)) }

func (k *checking) memory(n int) error { return because(memory(k.m.Memories[n])) }

func (k *checking) tag(n int) error { return because(tag(k.x, k.m.Tags[n])) }

func (k *checking) table(n int) error {
	t := k.m.Tables[n]
	switch e := table(k.x, t.Type); {
	case e != api.OK:
		return e
	case t.HasInit:
		return expression(k.x, t.Init, t.Type.Elem, k.imported)
	case !types.Default(t.Type.Elem):
		return api.ErrInit
	}
	return nil
}

func (k *checking) global(n int) error {
	g := k.m.Globals[n]
	if e := global(k.x, g.Type); e != api.OK {
		return e
	}
	return expression(k.x, g.Init, g.Type.Type, k.imported+n)
}

func (k *checking) export(n int) error {
	x := k.m.Exports[n]
	switch {
	case scope.Below(x.At, k.count(x.Kind)) != api.OK:
		return api.ErrIndex
	case k.firsts[x.Name] < n:
		return api.ErrDouble
	}
	return nil
}

// count tells how many of a kind the module has.
func (k *checking) count(kind int) int {
	switch kind {
	case api.KFunc:
		return len(k.x.Funcs)
	case api.KTable:
		return len(k.x.Tables)
	case api.KMemory:
		return len(k.x.Memories)
	case api.KGlobal:
		return len(k.x.Globals)
	case api.KTag:
		return len(k.x.Tags)
	}
	return 0
}

func (k *checking) start(int) error {
	t, e := scope.At(k.x.Funcs, k.m.Start)
	if e != api.OK {
		return e
	}
	// That it is a function's type has been asked where the function stands.
	if params, results, _ := vctl.FuncType(k.x, t); len(params) > 0 || len(results) > 0 {
		return api.ErrStart
	}
	return nil
}

func (k *checking) code(n int) error { return body(k.x, k.m.Funcs[n], noMore) }
