package arena

import (
	"ratchet/api"
	"ratchet/types"
)

// Fits tells whether a value fits a part.
func Fits(t api.ValType, v api.Value) bool { return fits(types.Unpack(t).Num, v) }

// fits tells whether a value fits a part that is unpacked.
func fits(num int, v api.Value) bool {
	if v.Type != num {
		return false
	}
	switch num {
	case api.TI32, api.TI64, api.TF32, api.TF64:
		return true
	case api.TRef:
		return lies(v.Ref)
	}
	return false
}

// Get tells a part; a packed one extended with its sign, or with noughts.
func (a *Arena) Get(at, i uint64, signed bool) (api.Value, api.Errno) {
	o, e := a.find(at)
	if e != api.OK {
		return api.Value{}, e
	}
	if i >= o.many {
		return api.Value{}, api.ErrPart
	}
	return o.get(o.part(i), signed), api.OK
}

// Set puts another value into a part.
func (a *Arena) Set(at, i uint64, v api.Value) api.Errno {
	o, e := a.find(at)
	if e != api.OK {
		return e
	}
	if i >= o.many {
		return api.ErrPart
	}
	p := o.part(i)
	if !fits(unpacked(p.num), v) {
		return api.ErrFit
	}
	o.set(p, v)
	return api.OK
}

// Values tells all parts.
func (a *Arena) Values(at uint64) ([]api.Value, api.Errno) {
	o, e := a.find(at)
	if e != api.OK {
		return nil, e
	}
	l := make([]api.Value, 0, o.many)
	for p := range o.parts() {
		l = append(l, o.get(p, false))
	}
	return l, api.OK
}

// Refs tells the parts that are references.
func (a *Arena) Refs(at uint64) ([]api.Ref, api.Errno) {
	o, e := a.find(at)
	if e != api.OK {
		return nil, e
	}
	var l []api.Ref
	for p := range o.refs() {
		l = append(l, o.get(p, false).Ref)
	}
	return l, api.OK
}

// SetRefs puts other references into these parts.
func (a *Arena) SetRefs(at uint64, l []api.Ref) api.Errno {
	o, e := a.find(at)
	if e != api.OK {
		return e
	}
	many := 0
	for range o.refs() {
		many++
	}
	if len(l) != many {
		return api.ErrArg
	}
	for _, r := range l {
		if !lies(r) {
			return api.ErrFit
		}
	}
	i := 0
	for p := range o.refs() {
		o.set(p, api.Value{Type: api.TRef, Ref: l[i]})
		i++
	}
	return api.OK
}

// get tells a part's value.
func (o object) get(p part, signed bool) api.Value {
	v := api.Value{Type: unpacked(p.num)}
	n := cut(o.words[p.slot.Word], p.slot, signed)
	if v.Type == api.TRef {
		v.Ref = refOf(n)
	} else {
		v.Bits = n
	}
	return v
}

// set puts a value that fits into a part.
func (o object) set(p part, v api.Value) {
	n := v.Bits
	switch v.Type {
	case api.TRef:
		n = refWord(v.Ref)
	case api.TI32, api.TF32:
		// An exception's values take a word each, so that putting it there does not leave the upper bits out.
		n = uint64(uint32(n))
	}
	w := &o.words[p.slot.Word]
	*w = put(*w, p.slot, n)
}

func unpacked(num int) int { return types.Unpack(api.ValType{Num: num}).Num }
