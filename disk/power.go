package disk

import "pigeonholes/api"

// power of a disk, which may be about to go.
type power struct {
	goes bool
	left int // where it goes: how many acts it lasts for
}

// lasts for so many acts from now on.
func (p *power) lasts(acts int) error {
	if acts < 0 {
		return api.ErrBound
	}
	p.goes, p.left = true, acts
	return nil
}

// spend power on an act, if there is any.
func (p *power) spend() error {
	switch {
	case !p.goes:
		return nil
	case p.left == 0:
		return api.ErrPower
	}
	p.left--
	return nil
}

// restore it: it does not go any more.
func (p *power) restore() { *p = power{} }
