package serve_test

import (
	"reflect"
	"strconv"
	"testing"

	"pigeonholes/api"
	"pigeonholes/serve"
)

// load a server.
func load(t *testing.T, snapshot string, most int, guard serve.Guard) *serve.Server {
	t.Helper()
	s, err := serve.Load(snapshot, most, guard)
	if s == nil || err != nil {
		t.Fatalf("%d: %v, %v", most, s, err)
	}
	return s
}

// A server that was loaded has the tree, handles too, and nothing beside it; what is done with it is not done with the first one.
func TestLoad(t *testing.T) {
	s := office(t, 2)
	well(t, s, at("", file("gone"), root, remove("gone"))...)
	h := handleOf(t, s, "a")
	opens(t, s, "a", 1, 1, 0, 3)
	x := load(t, s.Tree().Snapshot(), 300, nil)
	if x.Tree().Snapshot() != s.Tree().Snapshot() || handleOf(t, x, "a") != h {
		t.Error("another tree")
	}
	checkOpens(t, x)
	checkLocks(t, x)
	if l := x.Clients(); len(l) != 0 {
		t.Error(l)
	}
	fails(t, x, api.ErrNone, renew(1))
	if id := join(t, x, "c2"); id != 1 {
		t.Error(id)
	}
	if st := opens(t, x, "b", 1, 1, 7, 3); st != (state{ID: 1, Seq: 1}) {
		t.Error(st)
	}
	well(t, x, at("a", write(0, "more", state{}))...)
	if x.Tree().Snapshot() == s.Tree().Snapshot() {
		t.Error("one tree for both")
	}
}

// The errors are those of tree.Load.
func TestLoadErrors(t *testing.T) {
	snapshot := office(t, 1).Tree().Snapshot()
	for _, x := range []struct {
		snapshot string
		most     int
		want     error
	}{
		{"", 0, api.ErrBound}, {snapshot, 0, api.ErrBound}, {snapshot, -1, api.ErrBound}, {snapshot, api.MaxNodes + 1, api.ErrBound},
		{"", 1, api.ErrText}, {snapshot, 1, api.ErrText}, {snapshot + "\x00", 300, api.ErrText}, {snapshot[1:], 300, api.ErrText},
	} {
		if s, err := serve.Load(x.snapshot, x.most, nil); s != nil || err != x.want {
			t.Errorf("%q, %d: %v; want %v", x.snapshot, x.most, err, x.want)
		}
	}
}

// Clients that are confirmed are told by name, rising.
func TestClients(t *testing.T) {
	s := begin(t, 10)
	check := func(want ...string) {
		t.Helper()
		if l := s.Clients(); !reflect.DeepEqual(append([]string{}, l...), append([]string{}, want...)) {
			t.Errorf("%q; want %q", l, want)
		}
	}
	check()
	last(t, s, op{Kind: "client", Name: "waits"})
	check()
	c := join(t, s, "c")
	check("c")
	join(t, s, "a")
	join(t, s, "b")
	join(t, s, "a")
	check("a", "b", "c")
	tick(t, s, 30)
	well(t, s, renew(c))
	tick(t, s, 30)
	check("c")
	s.Clients()[0] = "x"
	check("c")
}

// guardBook of what a guard was asked; it answers an error, or none.
type guardBook struct {
	asked []string
	err   error
}

func (g *guardBook) guard(x op, client string) error {
	g.asked = append(g.asked, x.Kind+" "+client)
	return g.err
}

// A guard is asked of each open, lock, write and resize, with the op's client, if that is confirmed; of nothing else.
func TestGuardIsAsked(t *testing.T) {
	g := &guardBook{}
	s := load(t, office(t, 1).Tree().Snapshot(), 300, g.guard)
	join(t, s, "ann")
	last(t, s, op{Kind: "client", Name: "waits"})
	st := opens(t, s, "a", 1, 1, 0, 3)
	well(t, s, at("a", write(0, "abc", st), resize(2, state{}), save, restore, root, lookup("d"), up, renew(1))...)
	well(t, s, locks("lock", st, 0, 1, 1), locks("unlock", st, 0, 1, 1), locks("test", st, 0, 1, 1))
	well(t, s, at("", file("x"), root, lookup("x"), save, root, op{Kind: "link", Name: "y"}, root, remove("x"))...)
	last(t, s, at("a", handle, op{Kind: "attr"}, read(0, 9, st), root, op{Kind: "list", B: 9}, op{Kind: "what"})...)
	if st = last(t, s, down(1, 1, 1, 1, st)).State; st.Seq != 2 {
		t.Error(st)
	}
	well(t, s, shut(1, 1, 2, st))
	last(t, s, at("a", open(2, 1, 0, 1))...)
	last(t, s, at("a", open(99, 1, 0, 1))...)
	want := []string{"open ann", "write ", "resize ", "lock ", "open ", "open "}
	if !reflect.DeepEqual(g.asked, want) {
		t.Errorf("%q; want %q", g.asked, want)
	}
}

// What a guard answers is the op's error, ahead of all but an empty register, and the op changes nothing: no turn is taken, no lease renewed.
func TestGuardRefuses(t *testing.T) {
	g := &guardBook{}
	s := load(t, office(t, 1).Tree().Snapshot(), 300, g.guard)
	join(t, s, "ann")
	st := opens(t, s, "a", 1, 1, 0, 3)
	bad := state{ID: 9}
	g.err = api.ErrGrace
	tick(t, s, 30)
	for i, l := range [][]op{
		at("a", open(1, 1, 1, 3)), at("a", open(1, 1, 0, 3)), at("a", open(1, 1, 7, 99)), at("a", open(9, 9, -1, -1)), at("", open(1, 1, 1, 3)), at("d", open(1, 1, 1, 3)),
		{locks("lock", st, 0, 9, 1)}, {locks("lock", bad, -1, -1, 0)}, at("a", locks("lock", st, 0, 9, 2)), {locks("lock", state{}, 0, 0, 0)},
		at("a", write(0, "x", st)), at("a", write(-1, "x", bad)), at("", write(0, "x", st)), at("a", write(0, "", state{})),
		at("a", resize(0, st)), at("a", resize(-1, bad)), at("", resize(0, st)),
	} {
		fails(t, s, api.ErrGrace, l...)
		if len(g.asked) != 2+i {
			t.Errorf("%+v: asked %q", l, g.asked)
		}
	}
	for _, x := range []op{open(1, 1, 1, 3), write(0, "x", st), resize(0, st)} {
		fails(t, s, api.ErrShape, x)
	}
	if n := len(g.asked); n != 18 {
		t.Error("asked of an empty register:", n)
	}
	tick(t, s, 30)
	checkOpens(t, s)
	if isThere(t, s, 1) {
		t.Error("a lease was renewed")
	}
}

// A guard that refuses nothing changes nothing: each reply is as without one, and so is all that is told.
func TestGuardThatRefusesNothing(t *testing.T) {
	snapshot := office(t, 1).Tree().Snapshot()
	s, x := load(t, snapshot, 300, nil), load(t, snapshot, 300, (&guardBook{}).guard)
	for i := range 9 {
		name := "c" + strconv.Itoa(i%3)
		for _, l := range [][]op{
			{{Kind: "client", Name: name}}, {{Kind: "confirm", Client: i + 1, A: i + 1}},
			at("a", open(i+1, i%2, i, 1+i%3)), at("b", open(i+1, i%2, i+1, 1)), at("a", write(i, "abc", state{}), read(0, 99, state{})),
			{locks("lock", state{ID: i + 1, Seq: 1}, i, 3, 1)}, at("b", resize(i, state{})), {open(1, 1, 1, 1)},
		} {
			a, b := do(t, s, l...), do(t, x, l...)
			if !reflect.DeepEqual(a, b) || !reflect.DeepEqual(look(s), look(x)) {
				t.Fatalf("%+v: %+v; want %+v", l, b, a)
			}
		}
	}
}
