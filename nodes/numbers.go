package nodes

import "pigeonholes/api"

// Number that was given: Gen is how often before the node that is there, of which Kind and Change are told; or, where it is free, and Kind is 0, before the next one.
type Number struct{ Gen, Kind, Change int }

// Numbers that were given, from 0 on.
func (t *Table) Numbers() []Number {
	l := make([]Number, len(t.places))
	for i, p := range t.places {
		l[i].Gen = p.gen
		if !isFree(p) {
			l[i].Kind, l[i].Change = p.at.Kind, p.at.Change
		}
	}
	return l
}

// Restore a table that has given these numbers: its files have no bytes, and nothing has Links. ErrBound: most is none of New's, or a number is below 0; ErrShape: a kind is none, or a number is free that was never given; ErrFull: there are more nodes than most. (Numbers from most on may have been given: another table had room for them.)
func Restore(l []Number, most int) (*Table, error) {
	t, err := New(most)
	if err != nil {
		return nil, err
	}
	for _, n := range l {
		if err := n.check(); err != nil {
			return nil, err
		}
		t.places = append(t.places, n.place())
	}
	if t.Count() > most {
		return nil, api.ErrFull
	}
	return t, nil
}

func (n Number) check() error {
	switch {
	case n.Gen < 0 || n.Change < 0:
		return api.ErrBound
	case n.isFree() && n.Gen == 0:
		return api.ErrShape
	case !n.isFree() && n.Kind != api.File && n.Kind != api.Dir:
		return api.ErrShape
	}
	return nil
}

func (n Number) place() place {
	if n.isFree() {
		return place{gen: n.Gen}
	}
	return place{gen: n.Gen, at: &node{Attr: api.Attr{Kind: n.Kind, Change: n.Change}}}
}

func (n Number) isFree() bool { return n.Kind == 0 }
