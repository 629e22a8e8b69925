package tree_test

import (
	"errors"
	"math"
	"strconv"
	"strings"
	"sync"
	"testing"

	"pigeonholes/api"
	"pigeonholes/tree"
)

// noNames are none (P20).
var noNames = []string{"", ".", "..", "a/b", "/", "a b", "é", "\x00", strings.Repeat("n", 25)}

// noKinds are none.
var noKinds = []int{0, 3, -1, 4, math.MinInt, math.MaxInt, 1 + 1<<32}

// P60: from 1 to MaxNodes, and nothing else.
func TestNewBounds(t *testing.T) {
	for _, most := range []int{0, -1, math.MinInt, 301, 1 << 32, 1<<32 + 1, math.MaxInt} {
		x, err := tree.New(most)
		if x != nil {
			t.Errorf("%d: a tree beside an error", most)
		}
		checkErr(t, err, api.ErrBound)
	}
}

// P60: the root alone: Links 2, above it itself, nothing changed; it counts as a node.
func TestNewTree(t *testing.T) {
	for _, most := range []int{1, 2, 299, 300} {
		x := grow(t, most)
		if x.Root() != root || x.Nodes() != 1 {
			t.Errorf("%v, %d nodes", x.Root(), x.Nodes())
		}
		checkDir(t, x, root, 0, 2, 0, root)
		checkList(t, x, root)
		checkGone(t, x, api.Handle{Gen: 1})
		checkGone(t, x, api.Handle{Node: 1})
	}
}

// P60: handles of nothing, ahead of all else.
func TestStale(t *testing.T) {
	x := grow(t, 5)
	f := create(t, x, root, "f", api.File)
	g := create(t, x, root, "g", api.File)
	well(t, x.Remove(root, "g"))
	for _, h := range []api.Handle{none, g, {Node: -1}, {Gen: -1}, {Node: 3}, {Node: 2, Gen: 1}, {Node: math.MinInt, Gen: math.MaxInt}} {
		old := x.Snapshot()
		checkGone(t, x, h)
		// The first handle goes ahead of the second, which stands ahead of names.
		checkErr(t, x.Rename(f, "", h, ""), api.ErrDir)
		checkErr(t, x.Rename(h, "f", f, "g"), api.ErrStale)
		checkErr(t, x.Link(h, f, ""), api.ErrStale)
		checkErr(t, x.Link(f, h, ""), api.ErrStale)
		if x.Snapshot() != old {
			t.Error("something is changed")
		}
	}
}

// P60: a file is no directory, whichever of the handles it is: ahead of names, kinds and numbers.
func TestNoDirectory(t *testing.T) {
	x := grow(t, 5)
	f := create(t, x, root, "f", api.File)
	for _, do := range []func() error{
		func() error { h, err := x.Lookup(f, ""); checkNoHandle(t, h, err, api.ErrDir); return err },
		func() error { h, err := x.Lookup(f, "a"); checkNoHandle(t, h, err, api.ErrDir); return err },
		func() error { h, err := x.Create(f, "", 0); checkNoHandle(t, h, err, api.ErrDir); return err },
		func() error { h, err := x.Create(f, "a", api.File); checkNoHandle(t, h, err, api.ErrDir); return err },
		func() error { return x.Link(f, f, "") },
		func() error { return x.Link(root, f, "a") },
		func() error { return x.Remove(f, "") },
		func() error { return x.Remove(f, "a") },
		func() error { return x.Rename(f, "", none, "") },
		func() error { return x.Rename(f, "f", root, "g") },
		func() error { return x.Rename(root, "", f, "") },
		func() error { return x.Rename(root, "q", f, "g") },
		func() error { l, next, err := x.List(f, -1, -1); isZero(t, l, next); return err },
		func() error { l, next, err := x.List(f, 0, 1); isZero(t, l, next); return err },
	} {
		unchanged(t, x, api.ErrDir, do)
	}
}

func isZero(t *testing.T, l []api.Entry, next int) {
	t.Helper()
	if len(l) != 0 || next != 0 {
		t.Errorf("%v, %d beside an error", l, next)
	}
}

// P60: names that are none, ahead of what is said of each call.
func TestNoName(t *testing.T) {
	x := grow(t, 5)
	d := create(t, x, root, "d", api.Dir)
	f := create(t, x, root, "f", api.File)
	for _, name := range noNames {
		for _, do := range []func() error{
			func() error { h, err := x.Lookup(d, name); checkNoHandle(t, h, err, api.ErrName); return err },
			func() error { h, err := x.Create(root, name, 0); checkNoHandle(t, h, err, api.ErrName); return err },
			func() error {
				h, err := x.Create(root, name, api.File)
				checkNoHandle(t, h, err, api.ErrName)
				return err
			},
			func() error { return x.Link(f, root, name) },
			func() error { return x.Link(d, root, name) },
			func() error { return x.Remove(root, name) },
			func() error { return x.Rename(root, name, root, "g") },
			func() error { return x.Rename(root, "f", root, name) },
			func() error { return x.Rename(root, "q", root, name) },
			func() error { return x.Rename(root, "d", d, name) },
			func() error { return x.Rename(root, name, root, name) },
		} {
			unchanged(t, x, api.ErrName, do)
		}
	}
}

// P61: files have one link, directories two, and that above one more; each new node is unchanged.
func TestCreate(t *testing.T) {
	x := grow(t, 10)
	d := create(t, x, root, "d", api.Dir)
	checkDir(t, x, root, 1, 3, 1, root)
	f := create(t, x, root, "f", api.File)
	checkDir(t, x, root, 2, 3, 2, root)
	e := create(t, x, d, "e", api.Dir)
	g := create(t, x, d, "g", api.File)
	if d != (api.Handle{Node: 1}) || f != (api.Handle{Node: 2}) || e != (api.Handle{Node: 3}) || g != (api.Handle{Node: 4}) {
		t.Error(d, f, e, g)
	}
	checkDir(t, x, root, 2, 3, 2, root)
	checkDir(t, x, d, 2, 3, 2, root)
	checkDir(t, x, e, 0, 2, 0, d)
	checkFile(t, x, f, 0, 1, 0)
	checkFile(t, x, g, 0, 1, 0)
	checkList(t, x, root, api.Entry{Name: "d", H: d}, api.Entry{Name: "f", H: f})
	checkList(t, x, d, api.Entry{Name: "e", H: e}, api.Entry{Name: "g", H: g})
	checkList(t, x, e)
	if s, end, err := x.Read(g, 0, 10); s != "" || !end || err != nil {
		t.Error(s, end, err)
	}
	if x.Nodes() != 5 {
		t.Error(x.Nodes())
	}
}

// P61: the same name is another one in another directory, and in other letters.
func TestNamesOfTheirOwn(t *testing.T) {
	x := grow(t, 10)
	d := create(t, x, root, "d", api.Dir)
	a, b, c := create(t, x, root, "a", api.File), create(t, x, d, "a", api.File), create(t, x, d, "A", api.File)
	long := create(t, x, d, strings.Repeat("n", 24), api.File)
	checkList(t, x, root, api.Entry{Name: "a", H: a}, api.Entry{Name: "d", H: d})
	checkList(t, x, d, api.Entry{Name: "A", H: c}, api.Entry{Name: "a", H: b}, api.Entry{Name: strings.Repeat("n", 24), H: long})
}

// P61: what is not there.
func TestLookupNone(t *testing.T) {
	x := grow(t, 5)
	d := create(t, x, root, "d", api.Dir)
	create(t, x, d, "f", api.File)
	for _, c := range []struct {
		dir  api.Handle
		name string
	}{{root, "f"}, {root, "D"}, {root, "dd"}, {d, "d"}, {d, "e"}} {
		h, err := x.Lookup(c.dir, c.name)
		checkNoHandle(t, h, err, api.ErrNone)
	}
}

// P61: no kind is told ahead of one that is there, and that ahead of no room; nothing is changed.
func TestCreateErrors(t *testing.T) {
	x := grow(t, 3)
	for range 2 {
		for _, kind := range noKinds {
			unchanged(t, x, api.ErrShape, func() error {
				h, err := x.Create(root, "f", kind)
				checkNoHandle(t, h, err, api.ErrShape)
				return err
			})
		}
		if x.Nodes() == 1 {
			create(t, x, root, "f", api.File)
			create(t, x, root, "d", api.Dir)
		}
	}
	for _, name := range []string{"f", "d"} {
		for _, kind := range []int{api.File, api.Dir} {
			unchanged(t, x, api.ErrExist, func() error {
				h, err := x.Create(root, name, kind)
				checkNoHandle(t, h, err, api.ErrExist)
				return err
			})
		}
	}
	for _, kind := range []int{api.File, api.Dir} {
		unchanged(t, x, api.ErrFull, func() error {
			h, err := x.Create(root, "n", kind)
			checkNoHandle(t, h, err, api.ErrFull)
			return err
		})
	}
	well(t, x.Remove(root, "f"))
	if h := create(t, x, root, "n", api.Dir); h != (api.Handle{Node: 1, Gen: 1}) {
		t.Error(h)
	}
}

// fill a directory with links of files up to so many entries, which are named 0, 1, and so on.
func fill(t *testing.T, x *tree.Tree, dir api.Handle, entries int) {
	t.Helper()
	var f api.Handle
	for i := range entries {
		name := strconv.Itoa(i)
		if i%api.MaxLinks == 0 {
			f = create(t, x, dir, name, api.File)
		} else {
			well(t, x.Link(f, dir, name))
		}
	}
}

// P61, P62: MaxEntries is as many as go into a directory, by whichever call; what takes no room goes on.
func TestMaxEntries(t *testing.T) {
	x := grow(t, api.MaxNodes)
	d := create(t, x, root, "d", api.Dir)
	f := create(t, x, root, "f", api.File)
	g := create(t, x, root, "g", api.File)
	fill(t, x, d, api.MaxEntries-1)
	well(t, x.Link(f, d, "last"))
	for _, do := range []func() error{
		func() error { _, err := x.Create(d, "n", api.File); return err },
		func() error { _, err := x.Create(d, "n", api.Dir); return err },
		func() error { return x.Link(f, d, "n") },
		func() error { return x.Rename(root, "f", d, "n") },
	} {
		unchanged(t, x, api.ErrFull, do)
	}
	unchanged(t, x, api.ErrExist, func() error { _, err := x.Create(d, "0", api.File); return err })
	unchanged(t, x, api.ErrExist, func() error { return x.Link(f, d, "0") })
	unchanged(t, x, nil, func() error { return x.Rename(root, "f", d, "last") }) // the same node
	well(t, x.Rename(d, "0", d, "n"))                                            // in the same directory
	well(t, x.Rename(root, "g", d, "1"))                                         // another one goes
	if h, err := x.Lookup(d, "1"); h != g || err != nil {
		t.Error(h, err)
	}
	if a, err := x.Attr(d); a.Size != api.MaxEntries || err != nil {
		t.Error(a, err)
	}
	well(t, x.Remove(d, "2"))
	well(t, x.Rename(root, "f", d, "2"))
}

// P62: one more entry for a file: it has one more link, and both are changed.
func TestLink(t *testing.T) {
	x := grow(t, 5)
	d := create(t, x, root, "d", api.Dir)
	f := create(t, x, root, "f", api.File)
	well(t, x.Write(f, 0, "abc"))
	well(t, x.Link(f, d, "g"))
	checkFile(t, x, f, 3, 2, 2)
	checkDir(t, x, d, 1, 2, 1, root)
	checkDir(t, x, root, 2, 3, 2, root)
	well(t, x.Link(f, root, "h"))
	checkFile(t, x, f, 3, 3, 3)
	checkList(t, x, root, api.Entry{Name: "d", H: d}, api.Entry{Name: "f", H: f}, api.Entry{Name: "h", H: f})
	checkList(t, x, d, api.Entry{Name: "g", H: f})
	if x.Nodes() != 3 {
		t.Error(x.Nodes())
	}
}

// P62: a directory can't have another entry, whatever the name; the name, if it is none, is told ahead of that.
func TestLinkErrors(t *testing.T) {
	x := grow(t, 5)
	d := create(t, x, root, "d", api.Dir)
	f := create(t, x, root, "f", api.File)
	for _, c := range []struct {
		h, dir api.Handle
		name   string
		want   error
	}{
		{d, root, "x", api.ErrFile}, {d, root, "f", api.ErrFile}, {root, d, "x", api.ErrFile}, {d, d, "x", api.ErrFile},
		{root, root, "d", api.ErrFile}, {d, f, "x", api.ErrDir}, {d, none, "x", api.ErrStale}, {d, root, "", api.ErrName},
		{f, root, "f", api.ErrExist}, {f, root, "d", api.ErrExist}, {none, f, "", api.ErrStale}, {f, f, "", api.ErrDir},
	} {
		unchanged(t, x, c.want, func() error { return x.Link(c.h, c.dir, c.name) })
	}
}

// P62: MaxLinks is as many as a file has; a name that is there is told ahead of that.
func TestMaxLinks(t *testing.T) {
	x := grow(t, 5)
	f := create(t, x, root, "0", api.File)
	for i := 1; i < api.MaxLinks; i++ {
		well(t, x.Link(f, root, strconv.Itoa(i)))
	}
	checkFile(t, x, f, 0, api.MaxLinks, api.MaxLinks-1)
	unchanged(t, x, api.ErrFull, func() error { return x.Link(f, root, "n") })
	unchanged(t, x, api.ErrExist, func() error { return x.Link(f, root, "3") })
	well(t, x.Rename(root, "3", root, "m")) // takes no link
	well(t, x.Remove(root, "0"))
	well(t, x.Link(f, root, "n"))
	checkFile(t, x, f, 0, api.MaxLinks, api.MaxLinks+1)
	unchanged(t, x, api.ErrFull, func() error { return x.Link(f, root, "0") })
}

// P62: an entry goes; a file goes with its last one, and its number is free.
func TestRemoveFile(t *testing.T) {
	x := grow(t, 3)
	f := create(t, x, root, "f", api.File)
	well(t, x.Write(f, 70, "abc"))
	well(t, x.Link(f, root, "g"))
	well(t, x.Remove(root, "f"))
	checkFile(t, x, f, 73, 1, 3)
	checkList(t, x, root, api.Entry{Name: "g", H: f})
	checkDir(t, x, root, 1, 2, 3, root)
	well(t, x.Remove(root, "g"))
	checkGone(t, x, f)
	checkList(t, x, root)
	checkDir(t, x, root, 0, 2, 4, root)
	if x.Nodes() != 1 {
		t.Error(x.Nodes())
	}
	g := create(t, x, root, "f", api.File)
	if g != (api.Handle{Node: 1, Gen: 1}) {
		t.Error(g)
	}
	checkFile(t, x, g, 0, 1, 0)
}

// P62: a directory goes if it is empty; that above has one link less.
func TestRemoveDir(t *testing.T) {
	x := grow(t, 5)
	d := create(t, x, root, "d", api.Dir)
	e := create(t, x, d, "e", api.Dir)
	create(t, x, e, "f", api.File)
	for range 2 {
		unchanged(t, x, api.ErrHeld, func() error { return x.Remove(root, "d") })
		unchanged(t, x, api.ErrHeld, func() error { return x.Remove(d, "e") })
	}
	well(t, x.Remove(e, "f"))
	well(t, x.Remove(d, "e"))
	checkGone(t, x, e)
	checkDir(t, x, d, 0, 2, 2, root)
	well(t, x.Remove(root, "d"))
	checkGone(t, x, d)
	checkDir(t, x, root, 0, 2, 2, root)
	if x.Nodes() != 1 {
		t.Error(x.Nodes())
	}
	again := create(t, x, root, "d", api.Dir)
	checkDir(t, x, again, 0, 2, 0, root)
	checkList(t, x, again)
}

// P62: what is not there.
func TestRemoveNone(t *testing.T) {
	x := grow(t, 5)
	d := create(t, x, root, "d", api.Dir)
	create(t, x, root, "f", api.File)
	unchanged(t, x, api.ErrNone, func() error { return x.Remove(root, "g") })
	unchanged(t, x, api.ErrNone, func() error { return x.Remove(d, "f") })
	well(t, x.Remove(root, "f"))
	unchanged(t, x, api.ErrNone, func() error { return x.Remove(root, "f") })
}

// P62: a file gets another name, or another directory, and is not changed by that.
func TestRenameFile(t *testing.T) {
	x := grow(t, 5)
	d := create(t, x, root, "d", api.Dir)
	f := create(t, x, root, "f", api.File)
	well(t, x.Rename(root, "f", root, "g"))
	checkList(t, x, root, api.Entry{Name: "d", H: d}, api.Entry{Name: "g", H: f})
	checkDir(t, x, root, 2, 3, 3, root)
	checkFile(t, x, f, 0, 1, 0)
	well(t, x.Rename(root, "g", d, "g"))
	checkList(t, x, root, api.Entry{Name: "d", H: d})
	checkList(t, x, d, api.Entry{Name: "g", H: f})
	checkDir(t, x, root, 1, 3, 4, root)
	checkDir(t, x, d, 1, 2, 1, root)
	checkFile(t, x, f, 0, 1, 0)
}

// P62, P64: a directory that moves has another one above it, whose links say so, and is not changed by that.
func TestRenameDir(t *testing.T) {
	x := grow(t, 10)
	d, e := create(t, x, root, "d", api.Dir), create(t, x, root, "e", api.Dir)
	s := create(t, x, d, "s", api.Dir)
	f := create(t, x, s, "f", api.File)
	well(t, x.Rename(d, "s", e, "t"))
	checkDir(t, x, d, 0, 2, 2, root)
	checkDir(t, x, e, 1, 3, 1, root)
	checkDir(t, x, s, 1, 2, 1, e)
	checkList(t, x, e, api.Entry{Name: "t", H: s})
	checkList(t, x, s, api.Entry{Name: "f", H: f})
	well(t, x.Rename(e, "t", e, "u"))
	checkDir(t, x, e, 1, 3, 2, root)
	checkDir(t, x, s, 1, 2, 1, e)
	well(t, x.Rename(root, "d", s, "d"))
	checkDir(t, x, root, 1, 3, 3, root)
	checkDir(t, x, s, 2, 3, 2, e)
	checkDir(t, x, d, 0, 2, 2, s)
	well(t, x.Rename(e, "u", root, "u"))
	checkDir(t, x, root, 2, 4, 4, root)
	checkDir(t, x, s, 2, 3, 2, root)
	if h, err := x.Walk([]string{"u", "d"}); h != d || err != nil {
		t.Error(h, err)
	}
}

// P62: one that has the new name goes, as by Remove: a file with its last link, a directory if it is empty.
func TestRenameOver(t *testing.T) {
	x := grow(t, 10)
	d := create(t, x, root, "d", api.Dir)
	f, g := create(t, x, root, "f", api.File), create(t, x, d, "g", api.File)
	well(t, x.Link(g, d, "h"))
	well(t, x.Rename(root, "f", d, "g")) // g has another link
	checkFile(t, x, g, 0, 1, 2)
	checkFile(t, x, f, 0, 1, 0)
	checkDir(t, x, d, 2, 2, 3, root)
	checkDir(t, x, root, 1, 3, 3, root)
	well(t, x.Rename(d, "g", d, "h")) // and now none
	checkGone(t, x, g)
	checkFile(t, x, f, 0, 1, 0)
	checkDir(t, x, d, 1, 2, 4, root)
	checkList(t, x, d, api.Entry{Name: "h", H: f})

	e, s := create(t, x, root, "e", api.Dir), create(t, x, d, "s", api.Dir)
	create(t, x, e, "n", api.File)
	well(t, x.Rename(root, "e", d, "s"))
	checkGone(t, x, s)
	checkDir(t, x, root, 1, 3, 5, root)
	checkDir(t, x, d, 2, 3, 6, root)
	checkDir(t, x, e, 1, 2, 1, d)
	checkList(t, x, d, api.Entry{Name: "h", H: f}, api.Entry{Name: "s", H: e})
	if x.Nodes() != 5 {
		t.Error(x.Nodes())
	}
}

// P62: over a pinned file: it stays, without links.
func TestRenameOverPinned(t *testing.T) {
	x := grow(t, 5)
	f, g := create(t, x, root, "f", api.File), create(t, x, root, "g", api.File)
	well(t, x.Pin(g))
	well(t, x.Rename(root, "f", root, "g"))
	checkFile(t, x, g, 0, 0, 1)
	checkList(t, x, root, api.Entry{Name: "g", H: f})
	well(t, x.Unpin(g))
	checkGone(t, x, g)
}

// P62: the same node by the new name: nothing happens, whether it is the same entry, or another one.
func TestRenameSame(t *testing.T) {
	x := grow(t, 5)
	d := create(t, x, root, "d", api.Dir)
	f := create(t, x, root, "f", api.File)
	well(t, x.Link(f, root, "g"))
	well(t, x.Link(f, d, "f"))
	for _, do := range []func() error{
		func() error { return x.Rename(root, "f", root, "f") },
		func() error { return x.Rename(root, "f", root, "g") },
		func() error { return x.Rename(root, "g", root, "f") },
		func() error { return x.Rename(root, "g", d, "f") },
		func() error { return x.Rename(d, "f", root, "f") },
		func() error { return x.Rename(root, "d", root, "d") },
	} {
		unchanged(t, x, nil, do)
	}
}

// P62: the errors, the first that is so.
func TestRenameErrors(t *testing.T) {
	x := grow(t, 10)
	d, empty := create(t, x, root, "d", api.Dir), create(t, x, root, "empty", api.Dir)
	e := create(t, x, d, "e", api.Dir)
	s := create(t, x, e, "s", api.Dir)
	f := create(t, x, root, "f", api.File)
	well(t, x.Link(f, d, "f"))
	well(t, x.Link(f, e, "f"))
	for _, c := range []struct {
		from api.Handle
		old  string
		to   api.Handle
		name string
		want error
	}{
		{root, "q", root, "d", api.ErrNone}, {root, "q", d, "q", api.ErrNone}, {d, "d", d, "x", api.ErrNone},
		{root, "d", d, "x", api.ErrShape}, {root, "d", e, "x", api.ErrShape}, {root, "d", s, "x", api.ErrShape},
		{root, "d", d, "e", api.ErrShape}, {root, "d", d, "f", api.ErrShape}, {root, "d", e, "f", api.ErrShape}, {d, "e", s, "x", api.ErrShape},
		{root, "f", root, "d", api.ErrDir}, {root, "f", root, "empty", api.ErrDir}, {d, "f", d, "e", api.ErrDir},
		{root, "d", root, "f", api.ErrFile}, {root, "empty", root, "f", api.ErrFile}, {root, "empty", d, "f", api.ErrFile},
		{root, "empty", root, "d", api.ErrHeld}, {d, "e", root, "d", api.ErrHeld}, {e, "s", root, "d", api.ErrHeld}, {root, "empty", d, "e", api.ErrHeld},
	} {
		unchanged(t, x, c.want, func() error { return x.Rename(c.from, c.old, c.to, c.name) })
	}
	well(t, x.Rename(root, "d", empty, "d"))
	checkDir(t, x, d, 2, 3, 2, empty)
}

// P62: MaxEntries counts where the entry comes from elsewhere, and none goes for it; other errors stand ahead.
func TestRenameIntoFull(t *testing.T) {
	x := grow(t, api.MaxNodes)
	d := create(t, x, root, "d", api.Dir)
	create(t, x, root, "f", api.File)
	create(t, x, root, "e", api.Dir)
	fill(t, x, d, api.MaxEntries-1)
	s := create(t, x, d, "s", api.Dir)
	unchanged(t, x, api.ErrFull, func() error { return x.Rename(root, "f", d, "x") })
	unchanged(t, x, api.ErrFull, func() error { return x.Rename(root, "e", d, "x") })
	unchanged(t, x, api.ErrShape, func() error { return x.Rename(root, "d", d, "x") })
	unchanged(t, x, api.ErrDir, func() error { return x.Rename(root, "f", d, "s") })
	unchanged(t, x, api.ErrFile, func() error { return x.Rename(root, "e", d, "0") })
	unchanged(t, x, api.ErrNone, func() error { return x.Rename(root, "q", d, "x") })
	well(t, x.Rename(root, "e", d, "s"))
	checkGone(t, x, s)
	well(t, x.Rename(d, "0", d, "x"))
	well(t, x.Rename(d, "x", root, "x"))
	well(t, x.Rename(root, "f", d, "x"))
}

// P63: entries by name, rising, from a number on; next is how many lie ahead of what comes.
func TestList(t *testing.T) {
	x := grow(t, 20)
	want := []string{"-", ".a", "0", "10", "9", "B", "_", "a", "aa", "b"}
	for _, i := range []int{3, 9, 0, 7, 1, 5, 8, 2, 6, 4} {
		create(t, x, root, want[i], api.File)
	}
	for _, cookie := range []int{0, 1, 2, 9, 10, 11, 60, 1 << 32, math.MaxInt} {
		for _, n := range []int{0, 1, 2, 9, 10, 11, 1 << 32, math.MaxInt} {
			first := min(cookie, len(want))
			last := len(want)
			if n < last-first {
				last = first + n
			}
			l, next, err := x.List(root, cookie, n)
			if len(l) != last-first || next != last || err != nil {
				t.Fatalf("%d from %d: %v, %d, %v", n, cookie, l, next, err)
			}
			for i, e := range l {
				if h, err := x.Lookup(root, want[first+i]); e != (api.Entry{Name: want[first+i], H: h}) || err != nil {
					t.Errorf("%d from %d: %v; want %s", n, cookie, e, want[first+i])
				}
			}
		}
	}
	for _, c := range []struct{ cookie, n int }{{-1, 1}, {0, -1}, {-1, -1}, {math.MinInt, 1}, {1, math.MinInt}, {math.MaxInt, -1}} {
		l, next, err := x.List(root, c.cookie, c.n)
		isZero(t, l, next)
		checkErr(t, err, api.ErrBound)
	}
}

// P4: a list that was answered is nobody else's.
func TestListIsNewMemory(t *testing.T) {
	x := grow(t, 5)
	f := create(t, x, root, "f", api.File)
	g := create(t, x, root, "g", api.File)
	l, _, _ := x.List(root, 0, 1)
	l[0].Name, l[0].H = "x", none
	_ = append(l, api.Entry{Name: "y"})
	checkList(t, x, root, api.Entry{Name: "f", H: f}, api.Entry{Name: "g", H: g})
	l, _, _ = x.List(root, 0, 2)
	well(t, x.Rename(root, "f", root, "z"))
	if l[0] != (api.Entry{Name: "f", H: f}) {
		t.Error(l)
	}
}

// P63: a path from the root, of any length; the first name that does not go on is told with its place.
func TestWalk(t *testing.T) {
	x := grow(t, 30)
	d := create(t, x, root, "d", api.Dir)
	f := create(t, x, d, "f", api.File)
	for _, c := range []struct {
		path []string
		want api.Handle
		at   int
		err  error
	}{
		{nil, root, 0, nil}, {[]string{}, root, 0, nil}, {[]string{"d"}, d, 0, nil}, {[]string{"d", "f"}, f, 0, nil},
		{[]string{"q"}, root, 0, api.ErrNone}, {[]string{"d", "q"}, root, 1, api.ErrNone}, {[]string{"q", ".."}, root, 0, api.ErrNone},
		{[]string{""}, root, 0, api.ErrName}, {[]string{".."}, root, 0, api.ErrName}, {[]string{"d", "."}, root, 1, api.ErrName}, {[]string{"d", "f/"}, root, 1, api.ErrName},
		{[]string{"d", "f", "x"}, root, 2, api.ErrDir}, {[]string{"d", "f", ""}, root, 2, api.ErrDir}, {[]string{"d", "f", "x", "y"}, root, 2, api.ErrDir},
		{[]string{"d", "", "f", "x"}, root, 1, api.ErrName},
	} {
		h, err := x.Walk(c.path)
		if h != c.want {
			t.Errorf("%q: %v; want %v", c.path, h, c.want)
		}
		if c.err == nil {
			well(t, err)
			continue
		}
		var fault *api.Fault
		if !errors.As(err, &fault) || fault.At != c.at || fault.Err != c.err {
			t.Errorf("%q: %v; want %v at %d", c.path, err, c.err, c.at)
		}
	}
	var path []string
	h := root
	for range 25 { // more than MaxDeep: that is a path's bound, not a tree's
		h = create(t, x, h, "n", api.Dir)
		path = append(path, "n")
		if got, err := x.Walk(path); got != h || err != nil {
			t.Error(len(path), got, err)
		}
	}
}

// P66: no directory gets above itself, however deep the other one lies.
func TestNeverAboveItself(t *testing.T) {
	x := grow(t, api.MaxNodes)
	l := []api.Handle{root}
	for i := range api.MaxNodes - 1 {
		l = append(l, create(t, x, l[i], "n", api.Dir))
	}
	for i := 1; i < len(l)-1; i += 37 {
		for _, to := range []api.Handle{l[i], l[i+1], l[len(l)-1]} {
			unchanged(t, x, api.ErrShape, func() error { return x.Rename(l[i-1], "n", to, "x") })
		}
	}
	well(t, x.Rename(l[len(l)-2], "n", root, "x"))
	well(t, x.Rename(root, "n", l[len(l)-1], "n"))
	checkDir(t, x, l[1], 1, 3, 1, l[len(l)-1])
}

// P2: trees of their own, worked on side by side, do not see each other.
func TestSideBySide(t *testing.T) {
	var group sync.WaitGroup
	for i := range 8 {
		x := grow(t, 50)
		group.Go(func() {
			for n := range 49 {
				h, err := x.Create(root, strconv.Itoa(i*100+n), api.File)
				if h != (api.Handle{Node: n + 1}) || err != nil {
					t.Errorf("%v, %v", h, err)
				}
				if err := x.Write(h, 0, strconv.Itoa(i)); err != nil {
					t.Error(err)
				}
			}
			y, err := tree.Load(x.Snapshot(), 50)
			if err != nil {
				t.Error(err)
				return
			}
			for n := range 49 {
				h, err := y.Walk([]string{strconv.Itoa(i*100 + n)})
				if s, _, _ := y.Read(h, 0, 9); s != strconv.Itoa(i) || err != nil {
					t.Errorf("%q, %v", s, err)
				}
			}
		})
	}
	group.Wait()
}
