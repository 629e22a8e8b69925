package lease

import "pigeonholes/api"

// client is what there is by one name: at most one number that is confirmed, and at most one that is not yet. Numbers are given from 1 on: 0 is none.
type client struct {
	confirmed int
	waiting   int
	age       int // in ticks, of the lease of the confirmed one; a tick at which it began would grow without end
}

// keyOf a number: both are given together, and are the same.
func keyOf(id int) int { return id }

// has tells whether a number is one of a client's.
func (c client) has(id int) bool { return id > 0 && (c.confirmed == id || c.waiting == id) }

// isConfirmed tells whether one of a client's numbers is.
func (c client) isConfirmed() bool { return c.confirmed > 0 }

// isOver tells whether a client's lease is too old.
func (c client) isOver() bool { return c.age >= api.Lease }

// older makes what a client is n ticks later; without a lease nothing grows old.
func (c client) older(n int) client {
	if c.isConfirmed() {
		c.age += n
	}
	return c
}
