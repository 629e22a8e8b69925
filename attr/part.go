package attr

import "pigeonholes/api"

// part of what can be asked.
type part struct {
	bit  int
	pass func(c codec, a *api.Attr) error
	same func(a, b api.Attr) bool
}

func (p part) isAsked(mask int) bool { return mask&p.bit != 0 }

// parts in the order in which they stand in a text.
func parts() []part {
	return []part{
		{
			kindBit,
			func(c codec, a *api.Attr) error { return c.short(&a.Kind) },
			func(a, b api.Attr) bool { return a.Kind == b.Kind },
		},
		{
			sizeBit,
			func(c codec, a *api.Attr) error { return c.long(&a.Size) },
			func(a, b api.Attr) bool { return a.Size == b.Size },
		},
		{
			linksBit,
			func(c codec, a *api.Attr) error { return c.short(&a.Links) },
			func(a, b api.Attr) bool { return a.Links == b.Links },
		},
		{
			changeBit,
			func(c codec, a *api.Attr) error { return c.long(&a.Change) },
			func(a, b api.Attr) bool { return a.Change == b.Change },
		},
		{
			upBit,
			func(c codec, a *api.Attr) error { return passHandle(c, &a.Up) },
			func(a, b api.Attr) bool { return a.Up == b.Up },
		},
	}
}

func passHandle(c codec, h *api.Handle) error {
	if err := c.short(&h.Node); err != nil {
		return err
	}
	return c.short(&h.Gen)
}
