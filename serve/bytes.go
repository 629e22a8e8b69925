package serve

import (
	"strconv"

	"pigeonholes/api"
	"pigeonholes/lock"
)

// locking: ops on ranges, of the open that their state is of.
func locking() map[string]work {
	return map[string]work{
		"lock": guarded(asLock(func(c *compound, l lock.Lock) (lock.Lock, error) {
			return c.locks.Lock(l.H, l.Owner, l.R, l.Write)
		})),
		"test": asLock(func(c *compound, l lock.Lock) (lock.Lock, error) {
			return c.locks.Test(l.H, l.Owner, l.R, l.Write)
		}),
		"unlock": func(c *compound, op Op) (Reply, error) {
			o, err := c.anyones(op.State)
			if err != nil {
				return Reply{}, err
			}
			return Reply{}, c.locks.Unlock(o.file, op.State.ID, rangeOf(op))
		},
	}
}

// asLock makes an op of what asks for a lock, and is told who holds against it.
func asLock(ask func(c *compound, wanted lock.Lock) (lock.Lock, error)) work {
	return func(c *compound, op Op) (Reply, error) {
		o, err := c.anyones(op.State)
		if err != nil {
			return Reply{}, err
		}
		if op.C != api.Read && op.C != api.Write {
			return Reply{}, api.ErrBound
		}
		id := op.State.ID
		if err := c.shares.May(o.file, id, op.C); err != nil {
			return Reply{}, err
		}
		held, err := ask(c, lock.Lock{H: o.file, Owner: id, R: rangeOf(op), Write: op.C == api.Write})
		if err == api.ErrHeld {
			return Reply{N: held.Owner, Text: tell(held)}, err
		}
		return Reply{}, err
	}
}

// using: ops on what the current file holds.
func using() map[string]work {
	return map[string]work{
		"read": needCur(onFile(api.Read, func(c *compound, op Op) (Reply, error) {
			text, end, err := c.tree.Read(c.cur.Handle, op.A, op.B)
			return Reply{Text: text, End: end}, err
		})),
		"write": needCur(guarded(onFile(api.Write, func(c *compound, op Op) (Reply, error) {
			return Reply{}, c.tree.Write(c.cur.Handle, op.A, op.Text)
		}))),
		"resize": needCur(guarded(onFile(api.Write, func(c *compound, op Op) (Reply, error) {
			return Reply{}, c.tree.Resize(c.cur.Handle, op.A)
		}))),
	}
}

// onFile makes an op of what needs an access to the current file.
func onFile(access int, do work) work {
	return func(c *compound, op Op) (Reply, error) {
		if err := c.checkFile(c.cur.Handle); err != nil {
			return Reply{}, err
		}
		if err := c.may(c.cur.Handle, op.State, access); err != nil {
			return Reply{}, err
		}
		return do(c, op)
	}
}

// may a file be read, or written, by who has a state (or none)?
func (s *Server) may(file api.Handle, state api.State, access int) error {
	if state.ID == 0 {
		return s.shares.Anyone(file, access)
	}
	o, err := s.anyones(state)
	if err != nil {
		return err
	}
	if o.file != file {
		return api.ErrShape
	}
	return s.shares.May(file, state.ID, access)
}

// rangeOf an op.
func rangeOf(op Op) api.Range { return api.Range{At: op.A, Size: op.B} }

// tell a lock's range and kind.
func tell(l lock.Lock) string {
	kind := "read"
	if l.Write {
		kind = "write"
	}
	return strconv.Itoa(l.R.At) + " " + strconv.Itoa(l.R.Size) + " " + kind
}
