package arena

import (
	"iter"

	"ratchet/api"
)

// each goes over the objects' addresses, rising.
func (a *Arena) each() iter.Seq[uint64] {
	return func(yield func(uint64) bool) {
		for at := 0; at < len(a.taken); at += a.object(uint64(at)).size() {
			if !yield(uint64(at)) {
				return
			}
		}
	}
}

// Objects tells all addresses, rising.
func (a *Arena) Objects() []uint64 {
	if !a.made() {
		return nil
	}
	var l []uint64
	for at := range a.each() {
		l = append(l, at)
	}
	return l
}

// Keep leaves these objects alone, moved together; it tells their addresses.
func (a *Arena) Keep(live []uint64) ([]uint64, api.Errno) {
	if !a.made() {
		return nil, api.ErrZero
	}
	for i, at := range live {
		if i > 0 && live[i-1] >= at || !a.begins.has(at) {
			return nil, api.ErrArg
		}
	}
	clear(a.begins)
	moved := make([]uint64, 0, len(live))
	top := 0
	for _, at := range live {
		// Objects move down alone, so that those behind are still as they were.
		n := copy(a.taken[top:], a.taken[at:at+uint64(a.object(at).size())])
		moved = append(moved, uint64(top))
		a.begins = a.begins.with(uint64(top))
		top += n
	}
	a.taken = a.taken[:top]
	return moved, api.OK
}
