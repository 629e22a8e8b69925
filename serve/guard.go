package serve

// Guard of a server says whether an open, lock, write or resize may be done: these could take from others what they are to have again. It is asked ahead of all but an empty register; what it answers is the op's error. client: the name of the op's client, if that is confirmed.
type Guard func(op Op, client string) error

// guarded makes an op of one that is held against the guard.
func guarded(do work) work {
	return func(c *compound, op Op) (Reply, error) {
		if err := c.askGuard(op); err != nil {
			return Reply{}, err
		}
		return do(c, op)
	}
}

// askGuard of an op, if there is one.
func (s *Server) askGuard(op Op) error {
	if s.guard == nil {
		return nil
	}
	client, _ := s.leases.Name(op.Client) // of one that is not confirmed: none
	return s.guard(op, client)
}
