package tree

import (
	"pigeonholes/api"
	"pigeonholes/names"
	"pigeonholes/nodes"
	"pigeonholes/xdr"
)

// manyTimes is more often than anything happens: a text that says more is none, so that Gen and Change have room to rise behind what is loaded.
const manyTimes = 1<<62 - 1

// thrown by what cannot be loaded.
type thrown struct{ error }

// loader of a snapshot, of which it reads what is next.
type loader struct {
	*xdr.Reader
	tree    *Tree
	numbers []nodes.Number
}

// Load a tree.
func Load(s string, most int) (t *Tree, err error) {
	if _, err := New(most); err != nil {
		return nil, err
	}
	defer func() {
		if caught := recover(); caught != nil {
			t, err = nil, caught.(thrown).error
		}
	}()
	l := &loader{Reader: xdr.NewReader(s)}
	l.table(most)
	l.contents()
	l.check()
	// One tree has one text: what says the same in another way, or something more behind it, is none.
	l.must(l.tree.Snapshot() == s)
	return l.tree, nil
}

// must be so, or the text is none.
func (l *loader) must(ok bool) {
	if !ok {
		panic(thrown{api.ErrText})
	}
}

// table of the numbers that were given: the root is the first of them.
func (l *loader) table(most int) {
	for range l.number(api.MaxNodes) {
		l.numbers = append(l.numbers, l.given())
	}
	l.must(len(l.numbers) > 0 && l.numbers[0].Kind == api.Dir && l.numbers[0].Gen == 0)
	table, err := nodes.Restore(l.numbers, most)
	l.must(err == nil)
	l.tree = over(table)
	for i, n := range l.numbers {
		if n.Kind == api.Dir {
			l.tree.open(l.handle(i))
		}
	}
}

func (l *loader) given() nodes.Number {
	var n nodes.Number
	n.Kind = l.number(api.Dir)
	n.Gen = l.number(manyTimes)
	if n.Kind != 0 {
		n.Change = l.number(manyTimes)
	}
	return n
}

// contents of all nodes.
func (l *loader) contents() {
	for i, n := range l.numbers {
		switch n.Kind {
		case api.Dir:
			l.entries(l.handle(i))
		case api.File:
			l.held(l.handle(i))
		}
	}
}

func (l *loader) entries(dir api.Handle) {
	for range l.number(api.MaxEntries) {
		name := l.bytes(api.MaxName)
		l.must(names.Check(name) == nil)
		i := l.number(len(l.numbers) - 1)
		l.must(l.numbers[i].Kind != 0)
		l.tree.put(dir, name, l.handle(i))
	}
}

func (l *loader) held(h api.Handle) {
	d, err := l.tree.table.Data(h)
	l.must(err == nil)
	size := l.number(api.MaxFile)
	for range l.number(api.MaxFile / api.Block) {
		i := l.number(api.MaxFile/api.Block - 1)
		l.must(d.Write(i*api.Block, l.bytes(mostBlocks*api.Block)) == nil)
	}
	l.must(d.Resize(size) == nil)
}

// check that each node but the root has its entries, and is below the root: directories may have each other, in a ring.
func (l *loader) check() {
	entries := map[api.Handle]int{}
	for _, dir := range l.tree.dirs {
		for _, h := range dir {
			entries[h]++
		}
	}
	root := l.tree.Root()
	l.must(entries[root] == 0)
	for i, n := range l.numbers[1:] {
		h := l.handle(i + 1)
		switch n.Kind {
		case api.Dir:
			l.must(entries[h] == 1 && l.tree.isIn(h, root))
		case api.File:
			l.must(entries[h] >= 1 && entries[h] <= api.MaxLinks)
		}
	}
}

func (l *loader) handle(i int) api.Handle { return handleOf(i, l.numbers[i]) }

// number up to most.
func (l *loader) number(most int) int {
	n, err := l.Long()
	l.must(err == nil && n <= most)
	return n
}

func (l *loader) bytes(most int) string {
	s, err := l.Bytes(most)
	l.must(err == nil)
	return s
}
