package tree_test

import (
	"errors"
	"slices"
	"testing"

	"pigeonholes/api"
	"pigeonholes/plain"
	"pigeonholes/tree"
)

// What the package exports, as it was given.
var (
	_ func(int) (*tree.Tree, error)                                    = tree.New
	_ func(*tree.Tree) api.Handle                                      = (*tree.Tree).Root
	_ func(*tree.Tree, api.Handle, string) (api.Handle, error)         = (*tree.Tree).Lookup
	_ func(*tree.Tree, api.Handle, string, int) (api.Handle, error)    = (*tree.Tree).Create
	_ func(*tree.Tree, api.Handle, api.Handle, string) error           = (*tree.Tree).Link
	_ func(*tree.Tree, api.Handle, string) error                       = (*tree.Tree).Remove
	_ func(*tree.Tree, api.Handle, string, api.Handle, string) error   = (*tree.Tree).Rename
	_ func(*tree.Tree, api.Handle, int, int) ([]api.Entry, int, error) = (*tree.Tree).List
	_ func(*tree.Tree, api.Handle) (api.Attr, error)                   = (*tree.Tree).Attr
	_ func(*tree.Tree, []string) (api.Handle, error)                   = (*tree.Tree).Walk
	_ func(*tree.Tree, api.Handle, int, string) error                  = (*tree.Tree).Write
	_ func(*tree.Tree, api.Handle, int, int) (string, bool, error)     = (*tree.Tree).Read
	_ func(*tree.Tree, api.Handle, int) error                          = (*tree.Tree).Resize
	_ func(*tree.Tree, api.Handle) error                               = (*tree.Tree).Pin
	_ func(*tree.Tree, api.Handle) error                               = (*tree.Tree).Unpin
	_ func(*tree.Tree) int                                             = (*tree.Tree).Nodes
	_ func(*tree.Tree) string                                          = (*tree.Tree).Snapshot
	_ func(string, int) (*tree.Tree, error)                            = tree.Load
)

var root = api.Handle{}

// none is a handle of nothing in all trees of these tests.
var none = api.Handle{Node: 77, Gen: 7}

// grow a tree.
func grow(t *testing.T, most int) *tree.Tree {
	t.Helper()
	x, err := tree.New(most)
	if x == nil || err != nil {
		t.Fatalf("%d: %v, %v", most, x, err)
	}
	return x
}

// create must go well.
func create(t *testing.T, x *tree.Tree, dir api.Handle, name string, kind int) api.Handle {
	t.Helper()
	h, err := x.Create(dir, name, kind)
	if err != nil {
		t.Fatalf("%s: %v", name, err)
	}
	return h
}

// well: it must have gone so.
func well(t *testing.T, err error) {
	t.Helper()
	if err != nil {
		t.Fatal(err)
	}
}

// check what is told of a node.
func check(t *testing.T, x *tree.Tree, h api.Handle, want api.Attr) {
	t.Helper()
	if a, err := x.Attr(h); a != want || err != nil {
		t.Errorf("%v: %v, %v; want %v", h, a, err, want)
	}
}

// checkFile and checkDir tell the numbers alone.
func checkFile(t *testing.T, x *tree.Tree, h api.Handle, size, links, change int) {
	t.Helper()
	check(t, x, h, api.Attr{Kind: api.File, Size: size, Links: links, Change: change})
}

func checkDir(t *testing.T, x *tree.Tree, h api.Handle, size, links, change int, up api.Handle) {
	t.Helper()
	check(t, x, h, api.Attr{Kind: api.Dir, Size: size, Links: links, Change: change, Up: up})
}

// checkGone: all that can be asked of a handle of nothing is ErrStale, ahead of any other error, with nothing beside it (P3).
func checkGone(t *testing.T, x *tree.Tree, h api.Handle) {
	t.Helper()
	a, err := x.Attr(h)
	checkErr(t, err, api.ErrStale)
	b, err := x.Lookup(h, "")
	checkErr(t, err, api.ErrStale)
	c, err := x.Create(h, "", 0)
	checkErr(t, err, api.ErrStale)
	l, next, err := x.List(h, -1, -1)
	checkErr(t, err, api.ErrStale)
	s, end, err := x.Read(h, -1, -1)
	checkErr(t, err, api.ErrStale)
	if a != (api.Attr{}) || b != root || c != root || len(l) > 0 || next != 0 || s != "" || end {
		t.Error(h, a, b, c, l, next, s, end)
	}
	for _, err := range []error{
		x.Link(h, h, ""), x.Link(root, h, ""), x.Remove(h, ""), x.Rename(h, "", root, ""), x.Rename(root, "", h, ""),
		x.Write(h, -1, ""), x.Resize(h, -1), x.Pin(h), x.Unpin(h),
	} {
		checkErr(t, err, api.ErrStale)
	}
}

// checkErr: the error itself, without a place.
func checkErr(t *testing.T, err, want error) {
	t.Helper()
	var fault *api.Fault
	if err != want || errors.As(err, &fault) {
		t.Errorf("%v; want %v", err, want)
	}
	if _, at := plain.Code(err); at != -1 {
		t.Errorf("%v at %d", err, at)
	}
}

// checkNoHandle beside an error.
func checkNoHandle(t *testing.T, h api.Handle, err, want error) {
	t.Helper()
	if h != (api.Handle{}) {
		t.Errorf("%v beside %v", h, err)
	}
	checkErr(t, err, want)
}

// checkList of all entries, and that each is found by its name.
func checkList(t *testing.T, x *tree.Tree, dir api.Handle, want ...api.Entry) {
	t.Helper()
	l, next, err := x.List(dir, 0, 1000)
	if !slices.Equal(l, want) || next != len(want) || err != nil {
		t.Errorf("%v: %v, %d, %v; want %v", dir, l, next, err, want)
	}
	for _, e := range want {
		if h, err := x.Lookup(dir, e.Name); h != e.H || err != nil {
			t.Errorf("%s: %v, %v; want %v", e.Name, h, err, e.H)
		}
	}
}

// unchanged: what is done answers an error, and changes nothing that can be told (P3).
func unchanged(t *testing.T, x *tree.Tree, want error, do func() error) {
	t.Helper()
	nodes, old := x.Nodes(), x.Snapshot()
	checkErr(t, do(), want)
	if x.Nodes() != nodes || x.Snapshot() != old {
		t.Errorf("something is changed, though %v", want)
	}
}
