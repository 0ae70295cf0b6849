package frame

import (
	"ratchet/api"
	"ratchet/leb"
)

// fault is what a reader panics with: an error, and its place.
type fault struct {
	at int
	e  api.Errno
}

func giveUp(at int, e api.Errno) { panic(fault{at, e}) }

// attempt is where giving up ends: the answer is then the zero value, beside the fault.
func attempt[T any](read func() T) (answer T, f fault) {
	defer func() {
		if gone := recover(); gone != nil {
			f = gone.(fault)
		}
	}()
	return read(), fault{}
}

// reader goes over bytes from the left. Its methods give up at what can't be read.
type reader struct {
	b  []byte
	at int
}

func (r *reader) number() uint32 {
	n, at, e := leb.U32(r.b, r.at, len(r.b))
	if e != api.OK {
		giveUp(at, e)
	}
	r.at = at
	return n
}

// part is a reader over the next n bytes, with the places of the whole.
func (r *reader) part(n uint32) reader {
	// By 64 bits: n may be more than an int takes.
	if uint64(n) > uint64(len(r.b)-r.at) {
		giveUp(len(r.b), api.ErrShort)
	}
	start := r.at
	r.at += int(n)
	return reader{r.b[:r.at], start}
}

// rest is all that is left, not copied.
func (r *reader) rest() []byte { return r.b[r.at:] }

func (r *reader) name() string {
	start := r.at
	n := r.number()
	if n > api.MaxNames {
		giveUp(start, api.ErrLong)
	}
	part := r.part(n)
	s := string(part.rest())
	if bad, ok := wellFormed(s); !ok {
		giveUp(part.at+bad, api.ErrName)
	}
	return s
}

// preamble compares byte by byte, since a wrong byte is told ahead of those that are missing behind it.
func (r *reader) preamble() {
	for _, c := range preamble() {
		if r.at == len(r.b) {
			giveUp(r.at, api.ErrShort)
		}
		if r.b[r.at] != c {
			giveUp(r.at, api.ErrForm)
		}
		r.at++
	}
}

func (r *reader) sections() []api.Section {
	r.preamble()
	var l []api.Section
	var o order
	for r.at < len(r.b) {
		l = append(l, r.section(&o))
	}
	return l
}

func (r *reader) section(o *order) api.Section {
	start := r.at
	id := int(r.b[start])
	rank := Rank(id)
	if rank < 0 {
		giveUp(start, api.ErrForm)
	}
	r.at++
	part := r.part(r.number())
	if !o.takes(rank) {
		giveUp(start, api.ErrOrder)
	}
	s := api.Section{ID: id}
	if id == custom {
		s.Name = part.name()
	}
	s.At = part.at
	s.Data = part.rest()
	return copied(s)
}
