package entry

import (
	"ratchet/api"
	"ratchet/frame"
	"ratchet/leb"
)

// writer writes bytes from the left. Its methods give up at what has no binary form, in the order in which it would be read.
type writer struct{ out []byte }

// written is where a writer's giving up ends: there are then no bytes.
func written[T any](x T, write func(*writer, T)) (out []byte, e api.Errno) {
	defer func() {
		if gone := recover(); gone != nil {
			e = gone.(fault).e
		}
	}()
	w := &writer{}
	write(w, x)
	return w.out, api.OK
}

// need gives up where what is handed in has no binary form.
func (w *writer) need(ok bool) {
	if !ok {
		giveUp(len(w.out), api.ErrForm)
	}
}

func (w *writer) put(b ...byte) { w.out = append(w.out, b...) }

// putCode writes the byte of a thing that must have one.
func (w *writer) putCode(kind, what int) {
	code, ok := codeOf(kind, what)
	w.need(ok)
	w.put(code)
}

func (w *writer) unsigned(n uint64) { w.put(leb.PutU(n)...) }

func (w *writer) needType(n int) { w.need(0 <= n && n <= maxType) }

// index writes a defined type's number where nothing but numbers may stand.
func (w *writer) index(n int) {
	w.needType(n)
	w.unsigned(uint64(n))
}

// signedIndex writes a defined type's number where bytes of types may stand too.
func (w *writer) signedIndex(n int) {
	w.needType(n)
	w.put(leb.PutS(int64(n))...)
}

func (w *writer) flag(set bool) {
	if set {
		w.put(1)
		return
	}
	w.put(0)
}

func (w *writer) name(s string) {
	b, e := frame.PutName(s)
	if e != api.OK {
		giveUp(len(w.out), e)
	}
	w.put(b...)
}

// putList writes how many parts there are, and these. A number above its limit is told ahead of what the parts are, as when it is read.
func putList[T any](w *writer, limit int, l []T, write func(*writer, T)) {
	if len(l) > limit {
		giveUp(len(w.out), api.ErrLong)
	}
	w.unsigned(uint64(len(l)))
	for _, x := range l {
		write(w, x)
	}
}
