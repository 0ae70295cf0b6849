package entry

import (
	"ratchet/api"
	"ratchet/leb"
)

func (c *cursor) heapType() int {
	kind, what := meaning(c.peek())
	if kind == abstract {
		c.at++
		return what
	}
	return typeNumber(c, leb.S33)
}

func (c *cursor) refType() api.ValType {
	kind, what := meaning(c.peek())
	switch kind {
	case abstract:
		return api.ValType{Num: api.TRef, Null: true, Heap: c.heapType()}
	case reference:
		c.at++
		return api.ValType{Num: api.TRef, Null: what == withNull, Heap: c.heapType()}
	}
	giveUp(c.at, api.ErrForm)
	return api.ValType{}
}

func (c *cursor) valType() api.ValType {
	kind, what := meaning(c.peek())
	switch kind {
	case vector:
		giveUp(c.at, api.ErrSimd)
	case number:
		c.at++
		return api.ValType{Num: what}
	}
	return c.refType()
}

func (c *cursor) valTypes() []api.ValType { return list(c, api.MaxParams, (*cursor).valType) }

func (c *cursor) blockType() api.Block {
	first := c.peek()
	if first == noResult {
		c.at++
		return api.Block{Type: -1}
	}
	switch kind, _ := meaning(first); kind {
	case number, vector, abstract, reference:
		return api.Block{Type: -1, Result: c.valType()}
	}
	return api.Block{Type: typeNumber(c, leb.S33)}
}

// storage reads what a field may hold.
func (c *cursor) storage() api.ValType {
	kind, what := meaning(c.peek())
	if kind == packed {
		c.at++
		return api.ValType{Num: what}
	}
	return c.valType()
}

func (c *cursor) field() api.Field { return api.Field{Type: c.storage(), Mut: c.flag()} }

func (c *cursor) compType() api.CompType {
	kind, what := meaning(c.peek())
	if kind != composite {
		giveUp(c.at, api.ErrForm)
	}
	c.at++
	switch what {
	case api.CFunc:
		return api.CompType{Kind: what, Params: c.valTypes(), Results: c.valTypes()}
	case api.CStruct:
		return api.CompType{Kind: what, Fields: list(c, api.MaxFields, (*cursor).field)}
	}
	return api.CompType{Kind: what, Fields: []api.Field{c.field()}}
}

func (c *cursor) subType() api.SubType {
	first := c.peek()
	if first != openCode && first != finalCode {
		return api.SubType{Final: true, Comp: c.compType()}
	}
	c.at++
	supers := list(c, api.MaxParams, (*cursor).index)
	return api.SubType{Final: first == finalCode, Supers: supers, Comp: c.compType()}
}

func (c *cursor) recType() api.RecType {
	if c.peek() != groupCode {
		return api.RecType{Types: []api.SubType{c.subType()}}
	}
	c.at++
	return api.RecType{Types: list(c, api.MaxTypes, (*cursor).subType), Explicit: true}
}
