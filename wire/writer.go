package wire

import (
	"pigeonholes/api"
	"pigeonholes/serve"
	"pigeonholes/xdr"
)

// writer of a text: what cannot be written is thrown.
type writer struct{ xdr.Writer }

// writeList of anything: how many, then each.
func writeList[T any](w *writer, l []T, each func(*writer, T)) {
	must(w.Int(len(l)))
	for _, x := range l {
		each(w, x)
	}
}

func (w *writer) op(op serve.Op) {
	w.bytes(op.Kind)
	w.bytes(op.Name)
	w.bytes(op.Text)
	w.number(op.A)
	w.number(op.B)
	w.number(op.C)
	w.number(op.Client)
	w.state(op.State)
}

func (w *writer) reply(r serve.Reply) {
	w.number(r.Code)
	w.bytes(r.Text)
	w.handle(r.H)
	w.state(r.State)
	writeList(w, r.L, (*writer).entry)
	w.number(r.N)
	must(w.Bool(r.End))
}

func (w *writer) entry(e api.Entry) {
	w.bytes(e.Name)
	w.handle(e.H)
}

func (w *writer) handle(h api.Handle) {
	w.number(h.Node)
	w.number(h.Gen)
}

func (w *writer) state(s api.State) {
	w.number(s.ID)
	w.number(s.Seq)
}

// number of any sign. How far the least one is from 0, no int can tell: it stays below 0 here, and is no Long.
func (w *writer) number(n int) {
	must(w.Bool(n < 0))
	if n < 0 {
		n = -n
	}
	must(w.Long(n))
}

func (w *writer) bytes(s string) {
	// Bytes by the 2^32 would be a bound to xdr; here they are too many for a text, as all others are.
	if len(s) > api.MaxText {
		throw(api.ErrFull)
	}
	must(w.Bytes(s))
}
