package sub

import (
	"iter"

	"ratchet/api"
)

// kin is where an abstract heap type stands in its family.
type kin struct {
	up          int // what is right above it; 0 of the greatest and of the least of a family
	top, bottom int
}

// kinOf tells an abstract heap type's kin.
func kinOf(h int) (kin, bool) {
	table := [...]kin{
		-api.HFunc:     {top: api.HFunc, bottom: api.HNoFunc},
		-api.HNoFunc:   {top: api.HFunc, bottom: api.HNoFunc},
		-api.HExtern:   {top: api.HExtern, bottom: api.HNoExtern},
		-api.HNoExtern: {top: api.HExtern, bottom: api.HNoExtern},
		-api.HAny:      {top: api.HAny, bottom: api.HNone},
		-api.HEq:       {up: api.HAny, top: api.HAny, bottom: api.HNone},
		-api.HI31:      {up: api.HEq, top: api.HAny, bottom: api.HNone},
		-api.HStruct:   {up: api.HEq, top: api.HAny, bottom: api.HNone},
		-api.HArray:    {up: api.HEq, top: api.HAny, bottom: api.HNone},
		-api.HNone:     {top: api.HAny, bottom: api.HNone},
		-api.HExn:      {top: api.HExn, bottom: api.HNoExn},
		-api.HNoExn:    {top: api.HExn, bottom: api.HNoExn},
	}
	if h < api.HNoExn || h > api.HFunc {
		return kin{}, false
	}
	return table[-h], true
}

// kindOf tells the abstract heap type of a composite type's kind; 0, which is no abstract one: it has none.
func kindOf(c api.CompType) int {
	switch c.Kind {
	case api.CFunc:
		return api.HFunc
	case api.CStruct:
		return api.HStruct
	case api.CArray:
		return api.HArray
	}
	return 0
}

// upward goes over an abstract heap type and what stands above it; of the least of a family, which stands below all the others, it tells that one alone.
func upward(h int) iter.Seq[int] {
	return func(yield func(int) bool) {
		at := h
		for k, ok := kinOf(at); ok && yield(at); k, ok = kinOf(at) {
			at = k.up
		}
	}
}
