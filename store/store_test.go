package store_test

import (
	"reflect"
	"slices"
	"strconv"
	"strings"
	"sync"
	"testing"

	"pigeonholes/api"
	"pigeonholes/log"
	"pigeonholes/serve"
	"pigeonholes/store"
	"pigeonholes/tree"
)

// newTree's snapshot: that of a root alone.
func newTree(t *testing.T) string {
	t.Helper()
	x, err := tree.New(1)
	checkErr(t, err, nil)
	return x.Snapshot()
}

// P180: a new server, on the least disk too, and a log of it, that lasts.
func TestFormat(t *testing.T) {
	for _, sectors := range []int{8, 9, 10, 100, api.MaxSectors} {
		for _, most := range []int{1, 2, api.MaxNodes} {
			d, s := begin(t, sectors, most)
			x := s.Server()
			if snapshot(s) != newTree(t) || len(x.Opens()) != 0 || len(x.Locks()) != 0 || d.Waiting() != 0 {
				t.Fatalf("%d sectors, %d nodes: %q", sectors, most, snapshot(s))
			}
			if lasting(t, d) != newTree(t) {
				t.Fatalf("%d sectors: %q", sectors, lasting(t, d))
			}
			want := 0
			if most == 1 {
				want = code(api.ErrFull)
			}
			if r := do(t, s, root, file("a")); r[1].Code != want {
				t.Fatalf("%d nodes: %+v", most, r)
			}
		}
	}
}

// P180: serve.New's error comes first, then log's; nothing is done then.
func TestFormatErrors(t *testing.T) {
	for _, x := range []struct {
		sectors, most int
		want          error
	}{
		{100, 0, api.ErrBound}, {100, -1, api.ErrBound}, {100, api.MaxNodes + 1, api.ErrBound}, {7, 0, api.ErrBound}, {1, 301, api.ErrBound},
		{7, 1, api.ErrFull}, {1, 300, api.ErrFull}, {8, 1, api.ErrPower}, {100, 300, api.ErrPower},
	} {
		d := blank(t, x.sectors)
		checkErr(t, d.Write(0, "there"), nil)
		checkErr(t, d.Flush(), nil)
		checkErr(t, d.Fail(0), nil)
		before := contents(t, d)
		s, err := store.Format(d, x.most)
		checkErr(t, err, x.want)
		if s != nil || !slices.Equal(contents(t, d), before) || d.Waiting() != 0 {
			t.Errorf("%+v: %v", x, s)
		}
	}
	d, s := begin(t, 100, 20)
	well(t, s, root, file("a"))
	want := snapshot(s)
	_, err := store.Format(d, 301)
	checkErr(t, err, api.ErrBound)
	if lasting(t, d) != want {
		t.Error("what was there is gone")
	}
}

// P180: what was on the disk counts no more: neither the tree, nor the clients.
func TestFormatAnew(t *testing.T) {
	d, s := begin(t, 200, 20)
	for round := range 5 {
		join(t, s, "me")
		well(t, s, root, file("a"), write(0, "abc", state{}))
		if lasting(t, d) == newTree(t) || !isKnown(t, d, "me") {
			t.Fatal(round)
		}
		s = format(t, d, 20)
		if lasting(t, d) != newTree(t) || isKnown(t, d, "me") || snapshot(s) != newTree(t) {
			t.Fatal(round, lasting(t, d))
		}
	}
}

// P180: another log than a store's, and all else, can be formatted, too.
func TestFormatOther(t *testing.T) {
	d := blank(t, 100)
	for n := range 100 {
		checkErr(t, d.Write(n, strings.Repeat("\xff", 64)), nil)
	}
	format(t, d, 20)
	if lasting(t, d) != newTree(t) {
		t.Error(lasting(t, d))
	}
	for _, bytes := range []int{0, 1, 1000, 2000} {
		d := blank(t, 100)
		l, err := log.Format(d)
		checkErr(t, err, nil)
		checkErr(t, l.Add([]string{strings.Repeat("x", bytes), ""}), nil)
		format(t, d, 20)
		if lasting(t, d) != newTree(t) {
			t.Error(lasting(t, d))
		}
	}
}

// P180: to open, log.Open's errors come first, then that of most, then those of what the log says.
func TestOpenErrors(t *testing.T) {
	d := blank(t, 100)
	for _, most := range []int{0, 1, 300, 301} {
		noStore(t, d, most, api.ErrText)
	}
	_, s := begin(t, 100, 20)
	well(t, s, root, file("a"))
	good := snapshot(s)
	for _, records := range [][]string{
		nil, {""}, {good}, {"", ""}, {"x", ""}, {good, "", ""}, {"", good}, {good[:len(good)-1], ""}, {good + "\x00", ""}, {good, good}, {good, "no name"}, {good, "a/"}, {good, "/"}, {good, ".."},
	} {
		l, err := log.Format(d)
		checkErr(t, err, nil)
		checkErr(t, l.Add(records), nil)
		for _, most := range []int{0, -1, 301} {
			noStore(t, d, most, api.ErrBound)
		}
		noStore(t, d, 20, api.ErrText)
	}
}

// P180: the tree must go with most; it may have more room than it had.
func TestOpenMost(t *testing.T) {
	d, s := begin(t, 200, 20)
	well(t, s, root, file("a"), root, file("b"), root, file("c"), root, remove("a"))
	want := snapshot(s)
	for most := 1; most <= api.MaxNodes; most++ {
		if most < 3 {
			noStore(t, d, most, api.ErrText)
			continue
		}
		if got := snapshot(open(t, d, most)); got != want {
			t.Errorf("%d: %q; want %q", most, got, want)
		}
	}
	s = open(t, d, 4)
	well(t, s, root, file("a"))
	fails(t, s, api.ErrFull, root, file("d"))
	s = open(t, d, 5)
	well(t, s, root, file("d"))
	noStore(t, d, 4, api.ErrText)
}

// P180: Open gives the tree, as it was, handles and changes too; no opens, no locks, no turns, no clients.
func TestOpen(t *testing.T) {
	d, s := begin(t, 400, 30)
	ann := join(t, s, "ann")
	well(t, s, root, dir("d"), file("a"), write(100, "abc", state{}), root, file("gone"), root, remove("gone"), root, file("b"))
	st := well(t, s, root, lookup("b"), openBy(ann, 1, 7, 3)).State
	well(t, s, locks("lock", st, 0, 9, 2))
	s.Tick(5)
	o := open(t, d, 30)
	x := o.Server()
	if snapshot(o) != snapshot(s) || len(x.Opens()) != 0 || len(x.Locks()) != 0 || len(x.Clients()) != 0 {
		t.Fatalf("%q, %v, %v, %q", snapshot(o), x.Opens(), x.Locks(), x.Clients())
	}
	for _, l := range [][]op{{root, lookup("b"), {Kind: "handle"}}, {root, lookup("d"), lookup("a"), {Kind: "attr", A: 31}}, {root, lookup("d"), lookup("a"), read(99, 9, state{})}, {root, {Kind: "list", B: 9}}} {
		if a, b := do(t, s, l...), do(t, o, l...); !reflect.DeepEqual(a, b) {
			t.Errorf("%+v; want %+v", b, a)
		}
	}
	fails(t, o, api.ErrNone, op{Kind: "renew", Client: ann})
	fails(t, o, api.ErrNone, locks("unlock", st, 0, 9, 0))
	tick(t, o, 60)
	if id := join(t, o, "ann"); id != 1 {
		t.Error(id)
	}
	if st := well(t, o, root, lookup("b"), openBy(1, 1, 99, 3)).State; st != (state{ID: 1, Seq: 1}) {
		t.Error(st)
	}
}

// P180: a file that only an open held is gone, and its number is free: its handle stays stale.
func TestOpenWithoutPinned(t *testing.T) {
	d, s := begin(t, 400, 30)
	ann := join(t, s, "ann")
	well(t, s, root, file("a"), openBy(ann, 1, 0, 3), root, remove("a"))
	o := open(t, d, 30)
	if n := o.Server().Tree().Nodes(); n != 1 {
		t.Error(n)
	}
	if h := well(t, o, root, file("b"), op{Kind: "handle"}).H; h != (api.Handle{Node: 1, Gen: 1}) {
		t.Error(h)
	}
}

// P181: a compound is the server's: each reply is as a server's without a disk, and more ops than may be are ErrBound, and no harm.
func TestCompound(t *testing.T) {
	d, s := begin(t, 400, 30)
	x, err := serve.New(30)
	checkErr(t, err, nil)
	for _, l := range [][]op{
		nil, {}, {root}, {root, dir("d"), file("a"), {Kind: "handle"}}, {root, file("d")}, {lookup("d")}, {{Kind: "what"}},
		{{Kind: "client", Name: "ann"}, {Kind: "confirm", Client: 1, A: 1}, root, lookup("d"), lookup("a"), openBy(1, 1, 0, 3), write(0, "abc", state{ID: 1, Seq: 1}), write(0, "abc", state{ID: 9})},
		{root, {Kind: "list", B: 9}}, make([]op, api.MaxOps), make([]op, api.MaxOps+1), make([]op, 100), slices.Repeat([]op{root}, api.MaxOps),
		{locks("lock", state{ID: 1, Seq: 1}, 0, 9, 2), locks("test", state{ID: 1, Seq: 1}, 0, 9, 2)},
	} {
		got, err := s.Compound(l)
		want, wantErr := x.Compound(l)
		if err != wantErr || !reflect.DeepEqual(got, want) || len(l) > api.MaxOps && err != api.ErrBound {
			t.Fatalf("%+v: %+v, %v; want %+v, %v", l, got, err, want, wantErr)
		}
		if lasting(t, d) != x.Tree().Snapshot() {
			t.Fatalf("%+v: %q", l, lasting(t, d))
		}
	}
	for _, n := range []int{0, 1, -1, 1<<40 + 1, 59, 1 << 40} {
		if err, want := s.Tick(n), x.Tick(n); err != want || !reflect.DeepEqual(s.Server().Opens(), x.Opens()) || !reflect.DeepEqual(s.Server().Locks(), x.Locks()) {
			t.Fatalf("%d: %v; want %v", n, err, want)
		}
	}
	if n := len(s.Server().Opens()); n != 0 {
		t.Error(n)
	}
}

// P181: what is in a compound ahead of an error is done, and lasts.
func TestCompoundUpToError(t *testing.T) {
	d, s := begin(t, 400, 30)
	do(t, s, root, file("a"), write(0, "abc", state{}), lookup("b"), root, file("c"))
	o := open(t, d, 30)
	if r := do(t, o, root, op{Kind: "list", B: 9}); len(r[1].L) != 1 || r[1].L[0].Name != "a" || snapshot(o) != snapshot(s) {
		t.Errorf("%+v", r)
	}
}

// P181: behind each compound the disk has the tree, and the names of clients that are confirmed; nothing waits.
func TestWrittenAheadOfAnswer(t *testing.T) {
	d, s := begin(t, 1000, 30)
	names := []string{"ann", "bob", "waits", "abcdefghijklmnopqrstuvwx"}
	check := func(known ...string) {
		t.Helper()
		if d.Waiting() != 0 || lasting(t, d) != snapshot(s) {
			t.Fatalf("%d wait; %q", d.Waiting(), lasting(t, d))
		}
		for _, name := range names {
			if isKnown(t, d, name) != slices.Contains(known, name) {
				t.Fatalf("%s; want %q", name, known)
			}
		}
	}
	check()
	well(t, s, root, file("a"))
	check()
	well(t, s, op{Kind: "client", Name: "waits"})
	ann := join(t, s, "ann")
	check("ann")
	well(t, s, root, lookup("a"), write(7, "abc", state{}))
	check("ann")
	join(t, s, "bob")
	join(t, s, names[3])
	check("ann", "bob", names[3])
	tick(t, s, 59)
	well(t, s, op{Kind: "renew", Client: ann})
	tick(t, s, 1)
	check("ann", "bob", names[3]) // a tick writes nothing
	do(t, s)
	check("ann")
	tick(t, s, 60)
	do(t, s)
	check()
	well(t, s, root, lookup("a"), resize(0, state{}))
	check()
	well(t, s, root, remove("a"))
	check()
}

// P181: where nothing changes that lasts nothing is written: no power is needed, also for ticks.
func TestNothingIsWritten(t *testing.T) {
	d, s := begin(t, 400, 30)
	join(t, s, "ann")
	join(t, s, "bob")
	well(t, s, root, file("a"), write(0, "abc", state{}), openBy(1, 1, 0, 3))
	check := func(s *store.Store) {
		t.Helper()
		before := contents(t, d)
		checkErr(t, d.Fail(0), nil)
		do(t, s)
		well(t, s, root, lookup("a"), read(0, 9, state{}), op{Kind: "attr", A: 31})
		well(t, s, root, op{Kind: "list", B: 9})
		fails(t, s, api.ErrExist, root, file("a"))
		well(t, s, op{Kind: "client", Name: "other"})
		_, err := s.Compound(make([]op, 17))
		checkErr(t, err, api.ErrBound)
		tick(t, s, 59)
		if !slices.Equal(contents(t, d), before) || d.Waiting() != 0 {
			t.Fatal("something was written")
		}
		d.Crash(nil)
	}
	well(t, s, root, lookup("a"), openBy(1, 2, 0, 1))
	well(t, s, locks("lock", state{ID: 1, Seq: 1}, 0, 9, 2))
	well(t, s, locks("unlock", state{ID: 1, Seq: 1}, 0, 3, 0))
	check(s)
	o := open(t, d, 30)
	check(o)
	checkErr(t, d.Fail(0), nil)
	join(t, o, "ann") // who is known already
	check(o)
}

// P181: a tick's error is the server's, and nothing is written by a tick, also where clients go.
func TestTick(t *testing.T) {
	d, s := begin(t, 400, 30)
	join(t, s, "ann")
	checkErr(t, d.Fail(0), nil)
	before := contents(t, d)
	for _, n := range []int{-1, -1 << 62, 1<<40 + 1, 1 << 62} {
		checkErr(t, s.Tick(n), api.ErrBound)
	}
	if l := s.Server().Clients(); len(l) != 1 {
		t.Error(l)
	}
	tick(t, s, 60)
	if l := s.Server().Clients(); len(l) != 0 || !slices.Equal(contents(t, d), before) {
		t.Error(l)
	}
	_, err := s.Compound(nil)
	checkErr(t, err, api.ErrPower)
	fallen(t, s, api.ErrPower)
}

// P181: the server of a store is always the same; what it has is told by it.
func TestServer(t *testing.T) {
	d, s := begin(t, 400, 30)
	x := s.Server()
	well(t, s, root, file("a"))
	if x != s.Server() || x.Tree().Nodes() != 2 {
		t.Error(x.Tree().Nodes())
	}
	o := open(t, d, 30)
	if o.Server() == x || o.Server() != o.Server() {
		t.Error("one server for both")
	}
}

// P4: what was handed over may change, and so may what was answered; what lies behind a list's length is neither read nor written.
func TestNothingIsShared(t *testing.T) {
	d, s := begin(t, 400, 30)
	l := []op{root, file("a"), {Kind: "behind"}}
	r := do(t, s, l[:2]...)
	if l[2].Kind != "behind" || len(r) != 2 {
		t.Errorf("%+v", l)
	}
	l[1].Name = "x"
	r = do(t, s, root, op{Kind: "list", B: 9})
	r[1].L[0].Name = "y"
	r = do(t, s, root, op{Kind: "list", B: 9})
	if r[1].L[0].Name != "a" || lasting(t, d) != snapshot(s) {
		t.Errorf("%+v", r)
	}
}

// P2: stores on disks of their own, side by side, do not see each other.
func TestSideBySide(t *testing.T) {
	first, s := begin(t, 200, 30)
	well(t, s, root, file("first"))
	var group sync.WaitGroup
	for i := range 8 {
		d := first.Copy()
		group.Go(func() {
			x, err := store.Open(d, 30)
			for k := range 20 {
				if err != nil {
					t.Errorf("%d: %v", k, err)
					return
				}
				_, err = x.Compound([]op{root, file("f" + strconv.Itoa(i) + "." + strconv.Itoa(k))})
			}
			o, err := store.Open(d, 30)
			if err != nil || o.Server().Tree().Nodes() != 22 {
				t.Error(i, err)
			}
		})
	}
	group.Wait()
	if lasting(t, first) != snapshot(s) {
		t.Error(lasting(t, first))
	}
}

// What README.md says of a store.
func TestReadme(t *testing.T) {
	d := blank(t, 600)
	s := format(t, d, 20)
	well(t, s, op{Kind: "client", Name: "ann"}, op{Kind: "confirm", Client: 1, A: 1}, root, file("a.txt"), write(0, "abc", state{}), openBy(1, 7, 0, 3))
	checkErr(t, d.Fail(1), nil)
	_, err := s.Compound([]op{root, file("b.txt")})
	checkErr(t, err, api.ErrPower)
	checkErr(t, s.Tick(1), api.ErrPower)
	d.Crash([]bool{true})
	s = open(t, d, 20)
	r := do(t, s, op{Kind: "client", Name: "ann"}, op{Kind: "confirm", Client: 1, A: 1}, root, lookup("a.txt"), again(1, 7, 0, 3), write(0, "x", state{ID: 1, Seq: 1}))
	if want := []reply{{N: 1, State: state{ID: 1}}, {}, {}, {}, {State: state{ID: 1, Seq: 1}}, {Code: 14}}; !reflect.DeepEqual(r, want) {
		t.Errorf("%+v; want %+v", r, want)
	}
	tick(t, s, 30)
	well(t, s, op{Kind: "renew", Client: 1})
	tick(t, s, 30)
	well(t, s, root, lookup("a.txt"), write(0, "x", state{ID: 1, Seq: 1}))
	if n := s.Server().Tree().Nodes(); n != 2 {
		t.Error(n)
	}
}
