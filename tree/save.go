package tree

import (
	"strings"

	"pigeonholes/api"
	"pigeonholes/nodes"
	"pigeonholes/xdr"
)

// A snapshot is texts on the wire, one behind the other, as one alone has a bound. First how many numbers were given; of each, from 0 on, Kind (0: it is free), Gen and, unless it is free, Change. Then of each node, in the same order: a directory's entries, by name, rising: how many, and of each its name and number; a file's size, and its blocks that are no holes, rising, by pieces: how many, and of each the number of its first block, and its bytes, up to the end. Links, and what is above, are told by the entries.

// saver of a snapshot.
type saver struct{ strings.Builder }

// Snapshot of a tree.
func (t *Tree) Snapshot() string {
	s := &saver{}
	numbers := t.lasting()
	s.number(len(numbers))
	for _, n := range numbers {
		s.given(n)
	}
	for i, n := range numbers {
		switch n.Kind {
		case api.Dir:
			s.entries(t.sorted(handleOf(i, n)))
		case api.File:
			s.held(t, handleOf(i, n))
		}
	}
	return s.String()
}

// lasting numbers: that of a file that only its pins hold counts as free.
func (t *Tree) lasting() []nodes.Number {
	l := t.table.Numbers()
	for i, n := range l {
		if n.Kind == api.File && t.told(handleOf(i, n)).Links == 0 {
			l[i] = nodes.Number{Gen: n.Gen + 1}
		}
	}
	return l
}

func handleOf(i int, n nodes.Number) api.Handle { return api.Handle{Node: i, Gen: n.Gen} }

func (s *saver) given(n nodes.Number) {
	s.number(n.Kind)
	s.number(n.Gen)
	if n.Kind != 0 {
		s.number(n.Change)
	}
}

func (s *saver) entries(l []api.Entry) {
	s.number(len(l))
	for _, e := range l {
		s.bytes(e.Name)
		s.number(e.H.Node)
	}
}

func (s *saver) held(t *Tree, h api.Handle) {
	d, err := t.table.Data(h)
	if err != nil {
		return
	}
	s.number(d.Size())
	l := pieces(d.Written())
	s.number(len(l))
	for _, p := range l {
		text, _, _ := d.Read(p.first*api.Block, p.count*api.Block)
		s.number(p.first)
		s.bytes(text)
	}
}

// piece of a file: blocks that are no holes, with none between them.
type piece struct{ first, count int }

// mostBlocks of a piece: its bytes must go on the wire.
const mostBlocks = 32

// pieces of blocks, whose numbers rise: as few as can be.
func pieces(written []int) []piece {
	var l []piece
	for _, i := range written {
		if last := len(l) - 1; last >= 0 && l[last].goesOn(i) {
			l[last].count++
		} else {
			l = append(l, piece{first: i, count: 1})
		}
	}
	return l
}

// goesOn: has it room for this block, right behind it?
func (p piece) goesOn(i int) bool { return p.first+p.count == i && p.count < mostBlocks }

func (s *saver) number(n int) {
	w := &xdr.Writer{}
	w.Long(n)
	s.WriteString(w.Text())
}

func (s *saver) bytes(b string) {
	w := &xdr.Writer{}
	w.Bytes(b)
	s.WriteString(w.Text())
}
