package tree_test

import (
	"math"
	"strings"
	"testing"

	"pigeonholes/api"
)

// P64: what is written is read, as data have it.
func TestWriteAndRead(t *testing.T) {
	x := grow(t, 5)
	f, g := create(t, x, root, "f", api.File), create(t, x, root, "g", api.File)
	well(t, x.Write(f, 2, "abc"))
	checkFile(t, x, f, 5, 1, 1)
	checkFile(t, x, g, 0, 1, 0)
	for _, c := range []struct {
		at, n int
		want  string
		end   bool
	}{{0, 9, "\x00\x00abc", true}, {0, 4, "\x00\x00ab", false}, {3, 2, "bc", true}, {5, 1, "", true}, {math.MaxInt, math.MaxInt, "", true}, {1, 0, "", false}} {
		if s, end, err := x.Read(f, c.at, c.n); s != c.want || end != c.end || err != nil {
			t.Errorf("%v: %q, %v, %v", c, s, end, err)
		}
	}
	well(t, x.Link(f, root, "h"))
	h, _ := x.Lookup(root, "h")
	if s, _, err := x.Read(h, 0, 9); s != "\x00\x00abc" || err != nil {
		t.Errorf("%q, %v", s, err)
	}
}

// P64: what is no place in a file is ErrBound, bare, with nothing beside it, and changes nothing.
func TestBoundsOfFiles(t *testing.T) {
	x := grow(t, 5)
	f := create(t, x, root, "f", api.File)
	well(t, x.Write(f, 0, "abc"))
	for _, c := range []struct {
		at int
		s  string
	}{{-1, "x"}, {-1, ""}, {4096, "x"}, {4097, ""}, {0, strings.Repeat("x", 4097)}, {math.MaxInt, "x"}, {math.MinInt, "x"}} {
		unchanged(t, x, api.ErrBound, func() error { return x.Write(f, c.at, c.s) })
	}
	for _, n := range []int{-1, 4097, math.MinInt, math.MaxInt} {
		unchanged(t, x, api.ErrBound, func() error { return x.Resize(f, n) })
	}
	for _, c := range []struct{ at, n int }{{-1, 1}, {1, -1}, {math.MinInt, math.MinInt}} {
		unchanged(t, x, api.ErrBound, func() error {
			s, end, err := x.Read(f, c.at, c.n)
			if s != "" || end {
				t.Errorf("%q, %v beside an error", s, end)
			}
			return err
		})
	}
}

// P64: a directory is no file, whatever else is wrong.
func TestNoFile(t *testing.T) {
	x := grow(t, 5)
	d := create(t, x, root, "d", api.Dir)
	for _, h := range []api.Handle{root, d} {
		for _, do := range []func() error{
			func() error { return x.Write(h, 0, "x") },
			func() error { return x.Write(h, -1, "") },
			func() error { return x.Resize(h, 0) },
			func() error { return x.Resize(h, -1) },
			func() error { return x.Pin(h) },
			func() error { return x.Unpin(h) },
			func() error {
				s, end, err := x.Read(h, -1, 1)
				if s != "" || end {
					t.Errorf("%q, %v beside an error", s, end)
				}
				return err
			},
			func() error { _, _, err := x.Read(h, 0, 1); return err },
		} {
			unchanged(t, x, api.ErrFile, do)
		}
	}
}

// P64: each write of some bytes, and each resize, is one Change, also where nothing is other than it was; no bytes, and reading, are none.
func TestChangeOfFiles(t *testing.T) {
	x := grow(t, 5)
	f := create(t, x, root, "f", api.File)
	for i, c := range []struct {
		name   string
		do     func() error
		size   int
		change int
	}{
		{"no bytes", func() error { return x.Write(f, 0, "") }, 0, 0},
		{"no bytes, behind the end", func() error { return x.Write(f, 4096, "") }, 0, 0},
		{"to what it was", func() error { return x.Resize(f, 0) }, 0, 1},
		{"bytes", func() error { return x.Write(f, 0, strings.Repeat("x", 200)) }, 200, 2},
		{"the same bytes", func() error { return x.Write(f, 0, "xxx") }, 200, 3},
		{"shorter", func() error { return x.Resize(f, 100) }, 100, 4},
		{"as long", func() error { return x.Resize(f, 100) }, 100, 5},
		{"longer", func() error { return x.Resize(f, 4096) }, 4096, 6},
		{"read", func() error { _, _, err := x.Read(f, 0, 9); return err }, 4096, 6},
		{"pinned", func() error { return x.Pin(f) }, 4096, 6},
		{"unpinned", func() error { return x.Unpin(f) }, 4096, 6},
	} {
		if err := c.do(); err != nil {
			t.Error(i, c.name, err)
		}
		checkFile(t, x, f, c.size, 1, c.change)
		checkDir(t, x, root, 1, 2, 1, root)
	}
}

// P64: asking changes nothing.
func TestAskingChangesNothing(t *testing.T) {
	x := grow(t, 5)
	d := create(t, x, root, "d", api.Dir)
	create(t, x, d, "f", api.File)
	unchanged(t, x, nil, func() error {
		x.Root()
		x.Lookup(root, "d")
		x.List(root, 0, 5)
		x.Attr(d)
		x.Walk([]string{"d", "f"})
		x.Nodes()
		x.Snapshot()
		return nil
	})
}

// P62, P64: a pinned file stays without links, can be worked on, and goes with its last pin.
func TestPin(t *testing.T) {
	x := grow(t, 3)
	f := create(t, x, root, "f", api.File)
	well(t, x.Pin(f))
	well(t, x.Pin(f))
	well(t, x.Remove(root, "f"))
	checkFile(t, x, f, 0, 0, 1)
	checkList(t, x, root)
	well(t, x.Write(f, 0, "still"))
	well(t, x.Resize(f, 4))
	if s, end, err := x.Read(f, 0, 9); s != "stil" || !end || err != nil {
		t.Error(s, end, err)
	}
	checkFile(t, x, f, 4, 0, 3)
	well(t, x.Unpin(f))
	checkFile(t, x, f, 4, 0, 3)
	if x.Nodes() != 2 {
		t.Error(x.Nodes())
	}
	well(t, x.Unpin(f))
	checkGone(t, x, f)
	if x.Nodes() != 1 {
		t.Error(x.Nodes())
	}
	if h := create(t, x, root, "f", api.File); h != (api.Handle{Node: 1, Gen: 1}) {
		t.Error(h)
	}
}

// P64: as often as it was, less; a file that is not pinned is ErrNone, and stays.
func TestUnpinNone(t *testing.T) {
	x := grow(t, 5)
	f, g := create(t, x, root, "f", api.File), create(t, x, root, "g", api.File)
	unchanged(t, x, api.ErrNone, func() error { return x.Unpin(f) })
	for n := range 4 {
		for range n {
			well(t, x.Pin(f))
		}
		unchanged(t, x, api.ErrNone, func() error { return x.Unpin(g) })
		for range n {
			well(t, x.Unpin(f))
		}
		unchanged(t, x, api.ErrNone, func() error { return x.Unpin(f) })
	}
	checkFile(t, x, f, 0, 1, 0)
	well(t, x.Remove(root, "f"))
	checkGone(t, x, f)
}

// P64: pins of a number are those of one file: the next one by it has none.
func TestPinsOfOneFile(t *testing.T) {
	x := grow(t, 2)
	f := create(t, x, root, "f", api.File)
	well(t, x.Pin(f))
	well(t, x.Remove(root, "f"))
	well(t, x.Unpin(f))
	g := create(t, x, root, "f", api.File)
	unchanged(t, x, api.ErrNone, func() error { return x.Unpin(g) })
	well(t, x.Remove(root, "f"))
	checkGone(t, x, g)
}

// P62, P64: a pinned file without links can get one again, and stays then without a pin.
func TestLinkAgain(t *testing.T) {
	x := grow(t, 2)
	f := create(t, x, root, "f", api.File)
	well(t, x.Pin(f))
	well(t, x.Remove(root, "f"))
	_, err := x.Create(root, "n", api.File)
	checkErr(t, err, api.ErrFull) // it is a node still
	well(t, x.Link(f, root, "g"))
	well(t, x.Unpin(f))
	checkFile(t, x, f, 0, 1, 2)
	checkList(t, x, root, api.Entry{Name: "g", H: f})
}
