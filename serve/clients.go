package serve

import (
	"pigeonholes/api"
	"pigeonholes/xdr"
)

// owner of opens and turns: owners of unlike clients are unlike.
type owner struct{ client, number int }

// ownerOf an op.
func ownerOf(op Op) owner { return owner{client: op.Client, number: op.B} }

// knowing: ops by which clients are known.
func knowing() map[string]work {
	return map[string]work{
		"client": func(c *compound, op Op) (Reply, error) {
			id, key, err := c.leases.Register(op.Name, op.A)
			return Reply{N: id, State: api.State{ID: key}}, err
		},
		"confirm": func(c *compound, op Op) (Reply, error) {
			gone, err := c.leases.Confirm(op.Client, op.A)
			c.forget(gone) // nobody is 0, who has nothing
			return Reply{}, err
		},
		"renew": func(c *compound, op Op) (Reply, error) { return Reply{}, c.leases.Renew(op.Client) },
	}
}

// forget a client: its opens, its locks and its turns go.
func (s *Server) forget(client int) {
	for id, o := range s.opens {
		if o.client == client {
			s.shut(id)
		}
	}
	for by, n := range s.owners {
		if by.client == client {
			s.turns.Drop(n)
			delete(s.owners, by)
		}
	}
}

// inTurn makes an op of what an owner does once: where it comes again it is answered as it was, and not done.
func inTurn(do work) work {
	return func(c *compound, op Op) (Reply, error) {
		if err := c.leases.Renew(op.Client); err != nil {
			return Reply{}, err
		}
		by := ownerOf(op)
		text, again, err := c.turns.Begin(c.numberOf(by), op.A)
		if err != nil {
			return Reply{}, err
		}
		if again {
			return replyOf(text), nil
		}
		r := coded(do(c, op))
		return r, c.endTurn(by, op.A, r)
	}
}

// numberOf an owner by which turns know it, or would know it.
func (s *Server) numberOf(by owner) int {
	if n, known := s.owners[by]; known {
		return n
	}
	return s.lastOwner + 1
}

// endTurn of an owner, who is known from now on.
func (s *Server) endTurn(by owner, seq int, r Reply) error {
	n := s.numberOf(by)
	if err := s.turns.End(n, seq, textOf(r)); err != nil {
		return err
	}
	s.owners[by] = n
	s.lastOwner = max(s.lastOwner, n)
	return nil
}

// textOf a reply by which it can be told again. What is done in turns answers a code and a state alone; none of their numbers is below 0, so each can be written.
func textOf(r Reply) string {
	w := &xdr.Writer{}
	w.Long(r.Code)
	w.Long(r.State.ID)
	w.Long(r.State.Seq)
	return w.Text()
}

// replyOf such a text.
func replyOf(text string) Reply {
	r := xdr.NewReader(text)
	code, _ := r.Long()
	id, _ := r.Long()
	seq, _ := r.Long()
	return Reply{Code: code, State: api.State{ID: id, Seq: seq}}
}
