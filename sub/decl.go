package sub

import (
	"slices"

	"ratchet/api"
	"ratchet/types"
)

// Decl tells the first type whose declaration of what stands above it may not be.
func Decl(l []api.RecType) (int, api.Errno) {
	if n, e := types.Closed(l); e != api.OK {
		return n, e
	}
	o := newOrder(l)
	depths := make([]int, len(o.types))
	for n := range o.types {
		d, e := o.depth(n, depths)
		if e != api.OK {
			return n, e
		}
		depths[n] = d
	}
	return 0, api.OK
}

// depth tells how many types stand above a type, by the depths of those ahead of it; or why its declaration may not be.
func (o *order) depth(n int, ahead []int) (int, api.Errno) {
	s := o.types[n]
	if len(s.Supers) == 0 {
		return 0, api.OK
	}
	if slices.Max(s.Supers) >= n {
		return 0, api.ErrUnknown
	}
	if len(s.Supers) > 1 {
		return 0, api.ErrArg
	}
	up := s.Supers[0]
	switch {
	case o.types[up].Final:
		return 0, api.ErrFinal
	case ahead[up] >= api.MaxDepth:
		return 0, api.ErrDepth
	case !o.comp(s.Comp, o.types[up].Comp):
		return 0, api.ErrSuper
	}
	return ahead[up] + 1, api.OK
}
