package entry

import (
	"math"

	"ratchet/api"
)

func (w *writer) limits(l api.Limits) {
	w.need(l.HasMax || l.Max == 0)
	w.need(l.Wide || l.Min <= math.MaxUint32 && l.Max <= math.MaxUint32)
	form := byte(0)
	if l.Wide {
		form |= wideBit
	}
	if l.HasMax {
		form |= maxBit
	}
	w.put(form)
	w.unsigned(l.Min)
	if l.HasMax {
		w.unsigned(l.Max)
	}
}

func (w *writer) tableType(t api.TableType) {
	w.refType(t.Elem)
	w.limits(t.Limits)
}

func (w *writer) globalType(t api.GlobalType) {
	w.valType(t.Type)
	w.flag(t.Mut)
}

func (w *writer) tag(t int) {
	w.put(0)
	w.index(t)
}

func (w *writer) kind(k int) {
	w.need(api.KFunc <= k && k <= api.KTag)
	w.put(byte(k))
}

// told is an extern type without what its kind does not tell.
func told(x api.Extern) api.Extern {
	only := api.Extern{Kind: x.Kind}
	switch x.Kind {
	case api.KFunc, api.KTag:
		only.Type = x.Type
	case api.KTable:
		only.Table = x.Table
	case api.KMemory:
		only.Memory = x.Memory
	case api.KGlobal:
		only.Global = x.Global
	}
	return only
}

func (w *writer) extern(x api.Extern) {
	w.kind(x.Kind)
	w.need(x == told(x))
	switch x.Kind {
	case api.KFunc:
		w.index(x.Type)
	case api.KTable:
		w.tableType(x.Table)
	case api.KMemory:
		w.limits(x.Memory)
	case api.KGlobal:
		w.globalType(x.Global)
	case api.KTag:
		w.tag(x.Type)
	}
}

func (w *writer) importEntry(i api.Import) {
	w.name(i.Module)
	w.name(i.Name)
	w.extern(i.Extern)
}

func (w *writer) exportEntry(e api.Export) {
	w.name(e.Name)
	w.kind(e.Kind)
	w.unsigned(uint64(e.At))
}
