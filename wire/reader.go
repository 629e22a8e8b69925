package wire

import (
	"pigeonholes/api"
	"pigeonholes/serve"
	"pigeonholes/xdr"
)

// reader of a text: what cannot be read is thrown.
type reader struct{ *xdr.Reader }

// readList of anything: how many, then each. No room is made ahead of them: a text may say more than it has.
func readList[T any](r *reader, each func(*reader) T) []T {
	many, err := r.Int()
	must(err)
	var l []T
	for range many {
		l = append(l, each(r))
	}
	return l
}

// Fields are read in the order in which they stand in a literal.

func (r *reader) op() serve.Op {
	return serve.Op{
		Kind:   r.bytes(),
		Name:   r.bytes(),
		Text:   r.bytes(),
		A:      r.number(),
		B:      r.number(),
		C:      r.number(),
		Client: r.number(),
		State:  r.state(),
	}
}

func (r *reader) reply() serve.Reply {
	return serve.Reply{
		Code:  r.number(),
		Text:  r.bytes(),
		H:     r.handle(),
		State: r.state(),
		L:     readList(r, (*reader).entry),
		N:     r.number(),
		End:   r.flag(),
	}
}

func (r *reader) entry() api.Entry {
	return api.Entry{Name: r.bytes(), H: r.handle()}
}

func (r *reader) handle() api.Handle {
	return api.Handle{Node: r.number(), Gen: r.number()}
}

func (r *reader) state() api.State {
	return api.State{ID: r.number(), Seq: r.number()}
}

// number of any sign: 0 is not below 0, so that each number is written in one way.
func (r *reader) number() int {
	below := r.flag()
	n, err := r.Long()
	must(err)
	if !below {
		return n
	}
	if n == 0 {
		throw(api.ErrText)
	}
	return -n
}

func (r *reader) flag() bool {
	b, err := r.Bool()
	must(err)
	return b
}

// bytes up to those of a text: no part of one has more.
func (r *reader) bytes() string {
	s, err := r.Bytes(api.MaxText)
	must(err)
	return s
}
