package serve

import (
	"pigeonholes/api"
	"pigeonholes/attr"
)

// walking: ops that say which handles the registers hold.
func walking() map[string]work {
	return map[string]work{
		"root": func(c *compound, op Op) (Reply, error) { return c.goTo(c.tree.Root(), nil) },
		"save": needCur(func(c *compound, op Op) (Reply, error) {
			c.saved = c.cur
			return Reply{}, nil
		}),
		"restore": needSaved(func(c *compound, op Op) (Reply, error) { return c.goTo(c.saved.Handle, nil) }),
		"lookup":  needCur(func(c *compound, op Op) (Reply, error) { return c.goTo(c.tree.Lookup(c.cur.Handle, op.Name)) }),
		"up":      needCur(func(c *compound, op Op) (Reply, error) { return c.goTo(c.above(c.cur.Handle)) }),
		"make": needCur(func(c *compound, op Op) (Reply, error) {
			return c.goTo(c.tree.Create(c.cur.Handle, op.Name, op.A))
		}),
	}
}

// naming: ops that change what names there are.
func naming() map[string]work {
	return map[string]work{
		"link": needCur(needSaved(func(c *compound, op Op) (Reply, error) {
			return Reply{}, c.tree.Link(c.saved.Handle, c.cur.Handle, op.Name)
		})),
		"remove": needCur(func(c *compound, op Op) (Reply, error) {
			return Reply{}, c.tree.Remove(c.cur.Handle, op.Name)
		}),
		"rename": needCur(needSaved(func(c *compound, op Op) (Reply, error) {
			return Reply{}, c.tree.Rename(c.saved.Handle, op.Name, c.cur.Handle, op.Text)
		})),
	}
}

// asking: ops that tell of the current handle.
func asking() map[string]work {
	return map[string]work{
		"list": needCur(func(c *compound, op Op) (Reply, error) {
			l, next, err := c.tree.List(c.cur.Handle, op.A, op.B)
			return Reply{L: l, N: next}, err
		}),
		"attr": needCur(func(c *compound, op Op) (Reply, error) {
			a, err := c.tree.Attr(c.cur.Handle)
			if err != nil {
				return Reply{}, err
			}
			text, err := attr.Encode(a, op.A)
			return Reply{Text: text}, err
		}),
		"handle": needCur(func(c *compound, op Op) (Reply, error) { return Reply{H: c.cur.Handle}, nil }),
	}
}

// above a directory.
func (s *Server) above(h api.Handle) (api.Handle, error) {
	a, err := s.tree.Attr(h)
	if err != nil {
		return api.Handle{}, err
	}
	if a.Kind != api.Dir {
		return api.Handle{}, api.ErrDir
	}
	return a.Up, nil
}

// checkFile: is it one that is there?
func (s *Server) checkFile(h api.Handle) error {
	a, err := s.tree.Attr(h)
	if err != nil {
		return err
	}
	if a.Kind == api.Dir {
		return api.ErrFile
	}
	return nil
}
