package entry

import "ratchet/api"

func (w *writer) heapType(h int) {
	if h >= 0 {
		w.signedIndex(h)
		return
	}
	w.putCode(abstract, h)
}

// refType leaves out that null is one of an abstract type: its byte alone says so.
func (w *writer) refType(t api.ValType) {
	w.need(t.Num == api.TRef)
	if !t.Null {
		w.putCode(reference, withoutNull)
	} else if t.Heap >= 0 {
		w.putCode(reference, withNull)
	}
	w.heapType(t.Heap)
}

// plain writes a type that has no fields but Num, of one kind.
func (w *writer) plain(kind int, t api.ValType) {
	w.need(t == api.ValType{Num: t.Num})
	w.putCode(kind, t.Num)
}

func (w *writer) valType(t api.ValType) {
	if t.Num == api.TRef {
		w.refType(t)
		return
	}
	w.plain(number, t)
}

func (w *writer) valTypes(l []api.ValType) { putList(w, api.MaxParams, l, (*writer).valType) }

func (w *writer) blockType(x api.Block) {
	none := api.ValType{}
	switch {
	case x.Type != -1:
		w.need(x.Result == none)
		w.signedIndex(x.Type)
	case x.Result == none:
		w.put(noResult)
	default:
		w.valType(x.Result)
	}
}

// storage writes what a field may hold.
func (w *writer) storage(t api.ValType) {
	if t.Num == api.T8 || t.Num == api.T16 {
		w.plain(packed, t)
		return
	}
	w.valType(t)
}

func (w *writer) field(f api.Field) {
	w.storage(f.Type)
	w.flag(f.Mut)
}

// isWhole tells whether a composite type has just the lists of its kind.
func isWhole(c api.CompType) bool {
	types := len(c.Params) + len(c.Results)
	switch c.Kind {
	case api.CFunc:
		return len(c.Fields) == 0
	case api.CStruct:
		return types == 0
	case api.CArray:
		return types == 0 && len(c.Fields) == 1
	}
	return false
}

func (w *writer) compType(c api.CompType) {
	w.need(isWhole(c))
	w.putCode(composite, c.Kind)
	switch c.Kind {
	case api.CFunc:
		w.valTypes(c.Params)
		w.valTypes(c.Results)
	case api.CStruct:
		putList(w, api.MaxFields, c.Fields, (*writer).field)
	case api.CArray:
		w.field(c.Fields[0])
	}
}

func (w *writer) subType(s api.SubType) {
	if !s.Final || len(s.Supers) > 0 {
		w.declared(s)
	}
	w.compType(s.Comp)
}

// declared writes what stands ahead of a composite type that is not alone.
func (w *writer) declared(s api.SubType) {
	if s.Final {
		w.put(finalCode)
	} else {
		w.put(openCode)
	}
	putList(w, api.MaxParams, s.Supers, (*writer).index)
}

// recType does not ask for Explicit: of one type both forms are there, of others just one.
func (w *writer) recType(g api.RecType) {
	if len(g.Types) == 1 {
		w.subType(g.Types[0])
		return
	}
	w.put(groupCode)
	putList(w, api.MaxTypes, g.Types, (*writer).subType)
}
