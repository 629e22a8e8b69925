package serve

import (
	"pigeonholes/api"
	"pigeonholes/plain"
)

// compound that is being done: its server, and its registers.
type compound struct {
	*Server
	cur, saved register
}

// register for a handle: any handle may be one of a node, so none says by itself that it is empty.
type register struct {
	api.Handle
	isSet bool
}

// work is what an op of one kind does.
type work func(c *compound, op Op) (Reply, error)

// finder makes a function that tells what an op of a kind does.
func finder() func(kind string) work {
	kinds := []map[string]work{walking(), naming(), asking(), knowing(), opening(), locking(), using()}
	return func(kind string) work {
		for _, m := range kinds {
			if do, found := m[kind]; found {
				return do
			}
		}
		return unknown
	}
}

// unknown is what an op of no kind does.
func unknown(c *compound, op Op) (Reply, error) { return Reply{}, api.ErrText }

// coded reply: a reply that is told again has the code of its error already, and comes without one.
func coded(r Reply, err error) Reply {
	if err != nil {
		r.Code, _ = plain.Code(err)
	}
	return r
}

// needCur makes an op of one that cannot do without the current handle.
func needCur(do work) work {
	return func(c *compound, op Op) (Reply, error) {
		if !c.cur.isSet {
			return Reply{}, api.ErrShape
		}
		return do(c, op)
	}
}

// needSaved makes an op of one that cannot do without the saved handle.
func needSaved(do work) work {
	return func(c *compound, op Op) (Reply, error) {
		if !c.saved.isSet {
			return Reply{}, api.ErrShape
		}
		return do(c, op)
	}
}

// goTo a handle, if there is one: it is current now.
func (c *compound) goTo(h api.Handle, err error) (Reply, error) {
	if err != nil {
		return Reply{}, err
	}
	c.cur = register{Handle: h, isSet: true}
	return Reply{}, nil
}
