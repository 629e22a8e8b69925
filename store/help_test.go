package store_test

import (
	"errors"
	"reflect"
	"slices"
	"testing"

	"pigeonholes/api"
	"pigeonholes/disk"
	"pigeonholes/plain"
	"pigeonholes/serve"
	"pigeonholes/store"
)

// What the package exports, as it was given.
var (
	_ func(*disk.Disk, int) (*store.Store, error)           = store.Format
	_ func(*disk.Disk, int) (*store.Store, error)           = store.Open
	_ func(*store.Store, []serve.Op) ([]serve.Reply, error) = (*store.Store).Compound
	_ func(*store.Store, int) error                         = (*store.Store).Tick
	_ func(*store.Store) *serve.Server                      = (*store.Store).Server
)

type (
	op    = serve.Op
	reply = serve.Reply
	state = api.State
)

// checkErr: the error itself, without a place.
func checkErr(t *testing.T, err, want error) {
	t.Helper()
	var fault *api.Fault
	if err != want || errors.As(err, &fault) {
		t.Fatalf("%v; want %v", err, want)
	}
}

// code of an error.
func code(err error) int {
	n, _ := plain.Code(err)
	return n
}

// blank disk.
func blank(t *testing.T, sectors int) *disk.Disk {
	t.Helper()
	d, err := disk.New(sectors)
	checkErr(t, err, nil)
	return d
}

// begin a store, on a disk of its own.
func begin(t *testing.T, sectors, most int) (*disk.Disk, *store.Store) {
	t.Helper()
	d := blank(t, sectors)
	return d, format(t, d, most)
}

func format(t *testing.T, d *disk.Disk, most int) *store.Store {
	t.Helper()
	s, err := store.Format(d, most)
	checkErr(t, err, nil)
	if s == nil || s.Server() == nil {
		t.Fatal("no store")
	}
	return s
}

func open(t *testing.T, d *disk.Disk, most int) *store.Store {
	t.Helper()
	s, err := store.Open(d, most)
	checkErr(t, err, nil)
	if s == nil || s.Server() == nil {
		t.Fatal("no store")
	}
	return s
}

// noStore is there.
func noStore(t *testing.T, d *disk.Disk, most int, want error) {
	t.Helper()
	s, err := store.Open(d, most)
	checkErr(t, err, want)
	if s != nil {
		t.Fatal("a store")
	}
}

// do a compound.
func do(t *testing.T, s *store.Store, l ...op) []reply {
	t.Helper()
	r, err := s.Compound(l)
	if err != nil {
		t.Fatalf("%+v: %v", l, err)
	}
	return r
}

// well: all ops go so; the reply to the last one.
func well(t *testing.T, s *store.Store, l ...op) reply {
	t.Helper()
	r := do(t, s, l...)
	if len(r) != len(l) || r[len(r)-1].Code != 0 {
		t.Fatalf("%+v: %+v", l, r)
	}
	return r[len(r)-1]
}

// fails: the last op has an error, and answers nothing else.
func fails(t *testing.T, s *store.Store, want error, l ...op) {
	t.Helper()
	r := do(t, s, l...)
	if len(r) != len(l) || !reflect.DeepEqual(r[len(r)-1], reply{Code: code(want)}) {
		t.Fatalf("%+v: %+v; want %v", l, r, want)
	}
}

// fallen: all calls of a store answer this error, whatever they are given.
func fallen(t *testing.T, s *store.Store, want error) {
	t.Helper()
	for _, l := range [][]op{nil, {root}, {root, file("more")}, make([]op, api.MaxOps+1)} {
		r, err := s.Compound(l)
		checkErr(t, err, want)
		if len(r) != 0 {
			t.Fatalf("%+v", r)
		}
	}
	for _, n := range []int{0, 1, 60, -1} {
		checkErr(t, s.Tick(n), want)
	}
}

// tick must go well.
func tick(t *testing.T, s *store.Store, n int) {
	t.Helper()
	checkErr(t, s.Tick(n), nil)
}

// join a client: its number, confirmed.
func join(t *testing.T, s *store.Store, name string) int {
	t.Helper()
	r := well(t, s, op{Kind: "client", Name: name})
	well(t, s, op{Kind: "confirm", Client: r.N, A: r.State.ID})
	return r.N
}

// snapshot of a store's tree.
func snapshot(s *store.Store) string { return s.Server().Tree().Snapshot() }

// lasting is the tree that a disk has, whatever it loses of what waits.
func lasting(t *testing.T, d *disk.Disk) string {
	t.Helper()
	none, all := d.Copy(), d.Copy()
	none.Crash(nil)
	all.Crash(slices.Repeat([]bool{true}, all.Waiting()))
	a, b := snapshot(open(t, none, 300)), snapshot(open(t, all, 300))
	if a != b {
		t.Fatalf("%q, or %q", a, b)
	}
	return a
}

// isKnown: may a client by this name have again what it had open, as the disk has it?
func isKnown(t *testing.T, d *disk.Disk, name string) bool {
	t.Helper()
	x := d.Copy()
	x.Crash(nil)
	s := open(t, x, 300)
	id := join(t, s, name)
	r := do(t, s, root, file("try-it"), again(id, 1, 0, 1))
	if len(r) != 3 || r[2].Code != 0 && r[2].Code != code(api.ErrGrace) {
		t.Fatalf("%+v", r)
	}
	return r[2].Code == 0
}

// contents of all sectors.
func contents(t *testing.T, d *disk.Disk) []string {
	t.Helper()
	l := make([]string, d.Sectors())
	for n := range l {
		s, err := d.Read(n)
		checkErr(t, err, nil)
		l[n] = s
	}
	return l
}

// Ops that are short to write.
var root = op{Kind: "root"}

func file(name string) op { return op{Kind: "make", Name: name, A: api.File} }

func dir(name string) op { return op{Kind: "make", Name: name, A: api.Dir} }

func lookup(name string) op { return op{Kind: "lookup", Name: name} }

func remove(name string) op { return op{Kind: "remove", Name: name} }

func write(at int, text string, st state) op { return op{Kind: "write", A: at, Text: text, State: st} }

func resize(n int, st state) op { return op{Kind: "resize", A: n, State: st} }

func read(at, n int, st state) op { return op{Kind: "read", A: at, B: n, State: st} }

func openBy(client, owner, seq, c int) op {
	return op{Kind: "open", Client: client, B: owner, A: seq, C: c}
}

// again is an open in grace.
func again(client, owner, seq, c int) op {
	x := openBy(client, owner, seq, c)
	x.Text = "again"
	return x
}

func locks(kind string, st state, at, size, c int) op {
	return op{Kind: kind, State: st, A: at, B: size, C: c}
}

// noise that nothing makes shorter.
func noise(seed uint32, n int) string {
	b := make([]byte, n)
	for i := range b {
		seed = seed*1664525 + 1013904223
		b[i] = byte(seed >> 24)
	}
	return string(b)
}
