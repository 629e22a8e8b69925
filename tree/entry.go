package tree

import "pigeonholes/api"

// What is done here is done to nodes that are there: the table has no error to tell.

// told of a node.
func (t *Tree) told(h api.Handle) api.Attr {
	a, _ := t.table.Attr(h)
	return a
}

// touch a node: it was changed.
func (t *Tree) touch(h api.Handle) { t.table.Touch(h) }

// add a node, which has no entry yet.
func (t *Tree) add(kind int) (api.Handle, error) {
	h, err := t.table.Add(kind)
	if err == nil && kind == api.Dir {
		t.open(h)
	}
	return h, err
}

// open a directory: it has no entries.
func (t *Tree) open(dir api.Handle) {
	t.dirs[dir] = map[string]api.Handle{}
	t.recount(dir)
}

// put an entry: a file has one link more, above a directory is this one.
func (t *Tree) put(dir api.Handle, name string, h api.Handle) {
	t.dirs[dir][name] = h
	a := t.told(h)
	if a.Kind == api.File {
		a.Links++
	}
	t.table.Adjust(h, a.Size, a.Links, dir)
	t.recount(dir)
}

// take an entry away: its node stays, also without one.
func (t *Tree) take(dir api.Handle, name string) {
	h := t.dirs[dir][name]
	delete(t.dirs[dir], name)
	if a := t.told(h); a.Kind == api.File {
		t.table.Adjust(h, a.Size, a.Links-1, a.Up)
	}
	t.recount(dir)
}

// lose an entry, and its node, if nothing holds it any more.
func (t *Tree) lose(dir api.Handle, name string) {
	h := t.dirs[dir][name]
	t.take(dir, name)
	if t.isDir(h) {
		delete(t.dirs, h)
		t.table.Free(h)
		return
	}
	t.touch(h)
	t.settle(h)
}

// settle a file: without links and pins it goes.
func (t *Tree) settle(h api.Handle) {
	if t.told(h).Links == 0 && t.pins[h] == 0 {
		t.table.Free(h)
	}
}

// recount what a directory's entries tell of it: each directory among them has this one above it, and so one link more.
func (t *Tree) recount(dir api.Handle) {
	links := 2
	for _, h := range t.dirs[dir] {
		if t.isDir(h) {
			links++
		}
	}
	t.table.Adjust(dir, len(t.dirs[dir]), links, t.told(dir).Up)
}
