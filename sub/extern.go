package sub

import "ratchet/api"

// Limits tells whether what has the limits a may stand where b is asked.
func Limits(a, b api.Limits) bool {
	if a.Wide != b.Wide || a.Min < b.Min {
		return false
	}
	return !b.HasMax || a.HasMax && a.Max <= b.Max
}

// Extern tells whether what is of the type a may stand where b is imported.
func Extern(l []api.RecType, a, b api.Extern) bool {
	if a.Kind != b.Kind {
		return false
	}
	if a.Kind == api.KMemory {
		return Limits(a.Memory, b.Memory)
	}
	o, ok := closed(l)
	return ok && o.extern(a, b)
}

// extern holds what speaks of types against each other, both of one kind.
func (o *order) extern(a, b api.Extern) bool {
	switch a.Kind {
	case api.KFunc:
		return o.defined(a.Type, b.Type)
	case api.KTag:
		return o.defined(a.Type, b.Type) && o.defined(b.Type, a.Type)
	case api.KTable:
		return Limits(a.Table.Limits, b.Table.Limits) && o.alike(a.Table.Elem, b.Table.Elem)
	case api.KGlobal:
		// A global is what a field is: set by either side, or read alone.
		return o.field(api.Field(a.Global), api.Field(b.Global))
	}
	return false
}
