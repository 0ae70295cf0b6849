package entry

import (
	"ratchet/api"
	"ratchet/leb"
)

func (c *cursor) limits() api.Limits {
	form := c.peek()
	if form&^(maxBit|wideBit) != 0 {
		giveUp(c.at, api.ErrForm)
	}
	c.at++
	l := api.Limits{Wide: form&wideBit != 0, HasMax: form&maxBit != 0}
	l.Min = c.bound(l.Wide)
	if l.HasMax {
		l.Max = c.bound(l.Wide)
	}
	return l
}

func (c *cursor) bound(wide bool) uint64 {
	if wide {
		return numeral(c, leb.U64)
	}
	return uint64(numeral(c, leb.U32))
}

func (c *cursor) tableType() api.TableType {
	return api.TableType{Elem: c.refType(), Limits: c.limits()}
}

func (c *cursor) globalType() api.GlobalType {
	return api.GlobalType{Type: c.valType(), Mut: c.flag()}
}

func (c *cursor) tag() int {
	c.below(1)
	return c.index()
}

func (c *cursor) kind() int { return int(c.below(api.KTag + 1)) }

func (c *cursor) extern() api.Extern {
	x := api.Extern{Kind: c.kind()}
	switch x.Kind {
	case api.KFunc:
		x.Type = c.index()
	case api.KTable:
		x.Table = c.tableType()
	case api.KMemory:
		x.Memory = c.limits()
	case api.KGlobal:
		x.Global = c.globalType()
	case api.KTag:
		x.Type = c.tag()
	}
	return x
}

func (c *cursor) importEntry() api.Import {
	return api.Import{Module: c.name(), Name: c.name(), Extern: c.extern()}
}

func (c *cursor) exportEntry() api.Export {
	return api.Export{Name: c.name(), Kind: c.kind(), At: numeral(c, leb.U32)}
}
