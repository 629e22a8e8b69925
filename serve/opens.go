package serve

import "pigeonholes/api"

// open of a file, by an owner: of both together there is one at most.
type open struct {
	owner
	file api.Handle
	seq  int
}

// opening: ops by which an owner has opens, each in its turn.
func opening() map[string]work {
	return map[string]work{
		"open":  needCur(guarded(inTurn(openFile))),
		"close": inTurn(closeOpen),
		"down":  inTurn(downOpen),
	}
}

// wanted by an op. Of a number below 0 the access is none, of one above 15 the deny: shares answer that.
func wanted(op Op) (access, deny int) { return op.C % 4, op.C / 4 }

func openFile(c *compound, op Op) (Reply, error) {
	file := c.cur.Handle
	if err := c.checkFile(file); err != nil {
		return Reply{}, err
	}
	id, found := c.find(ownerOf(op), file)
	if !found {
		id = c.lastOpen + 1
	}
	access, deny := wanted(op)
	if err := c.shares.Open(file, id, access, deny); err != nil {
		return Reply{}, err
	}
	if !found {
		c.add(id, open{owner: ownerOf(op), file: file})
	}
	return Reply{State: c.advance(id)}, nil
}

func closeOpen(c *compound, op Op) (Reply, error) {
	if _, err := c.own(op); err != nil {
		return Reply{}, err
	}
	c.shut(op.State.ID)
	return Reply{}, nil
}

func downOpen(c *compound, op Op) (Reply, error) {
	o, err := c.own(op)
	if err != nil {
		return Reply{}, err
	}
	access, deny := wanted(op)
	if err := c.shares.Down(o.file, op.State.ID, access, deny); err != nil {
		return Reply{}, err
	}
	return Reply{State: c.advance(op.State.ID)}, nil
}

// find an owner's open of a file; there is one at most, in whatever order they come.
func (s *Server) find(by owner, file api.Handle) (int, bool) {
	for id, o := range s.opens {
		if o.owner == by && o.file == file {
			return id, true
		}
	}
	return 0, false
}

// add an open that is shared already: its file stays as long as it does.
func (s *Server) add(id int, o open) {
	s.opens[id] = o
	s.lastOpen = id
	s.tree.Pin(o.file)
}

// advance an open's sequence: a state from before is old now.
func (s *Server) advance(id int) api.State {
	o := s.opens[id]
	o.seq++
	s.opens[id] = o
	return api.State{ID: id, Seq: o.seq}
}

// shut an open, with all that hangs on it.
func (s *Server) shut(id int) {
	file := s.opens[id].file
	delete(s.opens, id)
	s.shares.Close(file, id)
	s.locks.Drop(file, id)
	s.tree.Unpin(file)
}

// byState: the open that a state is of.
func (s *Server) byState(state api.State) (open, error) {
	o, found := s.opens[state.ID]
	switch {
	case !found:
		return open{}, api.ErrNone
	case state.Seq < o.seq:
		return open{}, api.ErrOld
	case state.Seq > o.seq:
		return open{}, api.ErrShape
	}
	return o, nil
}

// own: the open by an op's state, which must be its owner's.
func (s *Server) own(op Op) (open, error) {
	if o, found := s.opens[op.State.ID]; found && o.owner != ownerOf(op) {
		return open{}, api.ErrNone
	}
	return s.byState(op.State)
}

// anyones: the open by a state, whoever has it; its client is heard of by that.
func (s *Server) anyones(state api.State) (open, error) {
	o, err := s.byState(state)
	if err != nil {
		return open{}, err
	}
	return o, s.leases.Renew(o.client)
}
