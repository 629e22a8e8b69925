package store_test

import (
	"strconv"
	"testing"

	"pigeonholes/api"
	"pigeonholes/disk"
	"pigeonholes/store"
)

// office is a store with files a and b and a directory d, of which ann and bob are confirmed clients, and one that waits is not.
func office(t *testing.T) (*disk.Disk, *store.Store) {
	t.Helper()
	d, s := begin(t, 1000, 30)
	well(t, s, root, file("a"), root, file("b"), root, dir("d"))
	join(t, s, "ann")
	join(t, s, "bob")
	well(t, s, op{Kind: "client", Name: "waits"})
	return d, s
}

// anew: the office, opened anew, with ann as client 1, eve as client 2, who was not there, and bob as client 3, not confirmed yet.
func anew(t *testing.T) (*disk.Disk, *store.Store) {
	t.Helper()
	d, _ := office(t)
	o := open(t, d, 30)
	join(t, o, "ann")
	join(t, o, "eve")
	well(t, o, op{Kind: "client", Name: "bob"})
	return d, o
}

// P182: open, lock, write and resize have ErrGrace, ahead of all other errors.
func TestGraceRefuses(t *testing.T) {
	_, s := anew(t)
	st := well(t, s, root, lookup("a"), again(1, 1, 0, 3)).State
	bad := state{ID: 9}
	for _, l := range [][]op{
		{root, lookup("a"), openBy(1, 1, 1, 3)}, {root, lookup("a"), openBy(1, 1, 0, 3)}, {root, lookup("a"), openBy(2, 1, 0, 3)}, {root, lookup("a"), openBy(9, 9, -1, 99)}, {root, openBy(1, 1, 1, 3)}, {root, lookup("d"), openBy(1, 1, 1, 3)},
		{locks("lock", st, 0, 9, 1)}, {locks("lock", bad, -1, -1, 9)}, {locks("lock", state{}, 0, 0, 0)}, {root, lookup("a"), locks("lock", st, 0, 9, 2)},
		{root, lookup("a"), write(0, "x", st)}, {root, lookup("a"), write(0, "x", state{})}, {root, lookup("b"), write(-1, "", bad)}, {root, write(0, "x", state{})},
		{root, lookup("a"), resize(0, st)}, {root, lookup("b"), resize(9, state{})}, {root, resize(-1, bad)},
	} {
		fails(t, s, api.ErrGrace, l...)
	}
}

// P182: an empty register comes first; lock needs none.
func TestGraceBehindRegister(t *testing.T) {
	_, s := anew(t)
	for _, x := range []op{openBy(1, 1, 0, 3), again(1, 1, 0, 3), again(2, 1, 0, 3), write(0, "x", state{}), resize(0, state{}), read(0, 9, state{})} {
		fails(t, s, api.ErrShape, x)
	}
	fails(t, s, api.ErrGrace, locks("lock", state{}, 0, 9, 1))
}

// P182: all other ops are done.
func TestGraceLetsAllElseBe(t *testing.T) {
	d, s := anew(t)
	st := well(t, s, root, lookup("a"), again(1, 1, 0, 3)).State
	well(t, s, root, lookup("a"), read(0, 9, st), read(0, 9, state{}), op{Kind: "attr", A: 31}, op{Kind: "handle"}, op{Kind: "save"}, op{Kind: "restore"})
	well(t, s, root, file("x"), op{Kind: "save"}, root, op{Kind: "link", Name: "y"}, op{Kind: "save"}, op{Kind: "rename", Name: "y", Text: "z"}, remove("z"), op{Kind: "list", B: 9}, dir("e"), op{Kind: "up"})
	well(t, s, locks("test", st, 0, 9, 2))
	well(t, s, locks("unlock", st, 0, 9, 0))
	well(t, s, op{Kind: "renew", Client: 1})
	st = well(t, s, op{Kind: "down", Client: 1, B: 1, A: 1, C: 1, State: st}).State
	well(t, s, op{Kind: "close", Client: 1, B: 1, A: 2, State: st})
	fails(t, s, api.ErrText, op{Kind: "what"})
	if lasting(t, d) != snapshot(s) {
		t.Error(lasting(t, d))
	}
}

// P182: open with Text `again`, of a client by whose name one was confirmed, is done as ever; its errors are the server's.
func TestAgain(t *testing.T) {
	_, s := anew(t)
	if st := well(t, s, root, lookup("a"), again(1, 1, 0, 3+8)).State; st != (state{ID: 1, Seq: 1}) {
		t.Error(st)
	}
	if st := well(t, s, root, lookup("a"), again(1, 1, 0, 1)).State; st != (state{ID: 1, Seq: 1}) {
		t.Error("its turn was not told again:", st)
	}
	if st := well(t, s, root, lookup("a"), again(1, 1, 1, 1)).State; st != (state{ID: 1, Seq: 2}) {
		t.Error(st)
	}
	fails(t, s, api.ErrHeld, root, lookup("a"), again(1, 2, 0, 2))
	fails(t, s, api.ErrSeq, root, lookup("a"), again(1, 1, 7, 1))
	fails(t, s, api.ErrFile, root, lookup("d"), again(1, 1, 2, 1))
	fails(t, s, api.ErrBound, root, lookup("b"), again(1, 1, 3, 16))
	fails(t, s, api.ErrBound, root, lookup("b"), again(1, 1, -1, 1))
	for _, text := range []string{"", "Again", "again ", "agai", "again\x00", "again again"} {
		x := again(1, 1, 4, 1)
		x.Text = text
		fails(t, s, api.ErrGrace, root, lookup("b"), x)
	}
	for _, kind := range []string{"write", "resize"} {
		fails(t, s, api.ErrGrace, root, lookup("b"), op{Kind: kind, Text: "again", Client: 1})
	}
	fails(t, s, api.ErrGrace, op{Kind: "lock", Text: "again", Client: 1, State: state{ID: 1, Seq: 2}, C: 1})
	x := again(1, 1, 4, 1)
	x.Name, x.Text = "again", ""
	fails(t, s, api.ErrGrace, root, lookup("b"), x)
}

// P182: whoever was not confirmed as the log had it at Open may not, whenever it is confirmed; nor who is not yet, nor who is none.
func TestAgainOfOthers(t *testing.T) {
	_, s := anew(t)
	for _, client := range []int{2, 3, 0, -1, 9} {
		fails(t, s, api.ErrGrace, root, lookup("a"), again(client, 1, 0, 1))
	}
	id := join(t, s, "waits")
	fails(t, s, api.ErrGrace, root, lookup("a"), again(id, 1, 0, 1))
	well(t, s, op{Kind: "confirm", Client: 3, A: 3})
	well(t, s, root, lookup("a"), again(3, 1, 0, 1))
	id = join(t, s, "ann") // once more: the one before is gone
	fails(t, s, api.ErrGrace, root, lookup("a"), again(1, 1, 0, 1))
	well(t, s, root, lookup("a"), again(id, 1, 0, 1))
}

// P182: what is refused is not done: no turn is taken, no lease begins anew, and nothing lasts of it.
func TestRefusedIsNotDone(t *testing.T) {
	d, s := anew(t)
	before := lasting(t, d)
	tick(t, s, 30)
	for range 3 {
		fails(t, s, api.ErrGrace, root, lookup("a"), openBy(1, 1, 7, 3))
		fails(t, s, api.ErrGrace, root, lookup("a"), write(0, "x", state{}))
		fails(t, s, api.ErrGrace, root, lookup("a"), resize(9, state{}))
	}
	if lasting(t, d) != before || snapshot(s) != before || len(s.Server().Opens()) != 0 {
		t.Error(s.Server().Opens())
	}
	x := open(t, d, 30)
	join(t, x, "ann")
	fails(t, x, api.ErrGrace, root, lookup("a"), openBy(1, 1, 7, 3))
	well(t, x, root, lookup("a"), again(1, 1, 3, 3))
	tick(t, s, 29)
	fails(t, s, api.ErrGrace, root, lookup("a"), openBy(1, 1, 7, 3))
	tick(t, s, 1)
	if l := s.Server().Clients(); len(l) != 0 {
		t.Errorf("%q were heard of", l)
	}
}

// isGrace: is it, as a write tells?
func isGrace(t *testing.T, s *store.Store) bool {
	t.Helper()
	r := do(t, s, root, lookup("a"), write(0, "", state{}))
	if len(r) != 3 || r[2].Code != 0 && r[2].Code != code(api.ErrGrace) {
		t.Fatalf("%+v", r)
	}
	return r[2].Code != 0
}

// P182: it lasts until 60 ticks together have been; calls that have an error do not count, nor does anything else.
func TestGraceEnds(t *testing.T) {
	for _, ticks := range [][]int{{60}, {59, 1}, {1, 59}, {30, 30}, {59, 0, 0, 100}, {20, 20, 19, 1}, {0, 61}, {1 << 40}, {59, 1 << 40}} {
		d, _ := office(t)
		s := open(t, d, 30)
		for i, n := range ticks {
			if !isGrace(t, s) {
				t.Fatalf("%v: over ahead of %d", ticks, i)
			}
			checkErr(t, s.Tick(-1), api.ErrBound)
			checkErr(t, s.Tick(1<<40+1), api.ErrBound)
			checkErr(t, s.Tick(n), nil)
		}
		if isGrace(t, s) {
			t.Fatalf("%v: not over", ticks)
		}
		for range 3 {
			tick(t, s, 1<<40)
			if isGrace(t, s) {
				t.Fatalf("%v: it is back", ticks)
			}
		}
	}
	d, _ := office(t)
	s := open(t, d, 30)
	for i := range 60 {
		if !isGrace(t, s) {
			t.Fatal(i)
		}
		tick(t, s, 1)
	}
	if isGrace(t, s) {
		t.Error("not over")
	}
}

// P182: behind grace, and behind Format, Text means nothing, and all ops are done.
func TestNoGrace(t *testing.T) {
	_, s := office(t)
	d, _ := office(t)
	o := open(t, d, 30)
	tick(t, o, 60)
	join(t, o, "eve")
	for _, s := range []*store.Store{s, o} {
		for i, text := range []string{"again", "", "else"} {
			x := openBy(1, i, 0, 3)
			x.Text = text
			st := well(t, s, root, lookup("a"), x).State
			well(t, s, locks("lock", st, 10*i, 9, 2))
			well(t, s, root, lookup("a"), write(0, "abc", st), resize(1, state{}))
		}
		fails(t, s, api.ErrNone, root, lookup("a"), again(9, 1, 0, 1))
	}
}

// P182: each Open begins it anew.
func TestGraceAnew(t *testing.T) {
	d, _ := office(t)
	for range 3 {
		s := open(t, d, 30)
		tick(t, s, 59)
		if !isGrace(t, s) {
			t.Error("over")
		}
		s = open(t, d, 30)
		tick(t, s, 60)
		if isGrace(t, s) {
			t.Error("not over")
		}
		well(t, s, root, lookup("a"), write(0, "x", state{}))
	}
}

// P181: in grace the log keeps the names that it had at Open, beside those that are confirmed; so they may open again also when the power goes once more.
func TestNamesInGrace(t *testing.T) {
	d, _ := office(t)
	check := func(known ...string) {
		t.Helper()
		for i, name := range []string{"ann", "bob", "eve", "waits"} {
			if isKnown(t, d, name) != (known[i] != "") {
				t.Fatalf("%s; want %q", name, known)
			}
		}
	}
	check("ann", "bob", "", "")
	s := open(t, d, 30)
	join(t, s, "eve")
	well(t, s, root, file("x"))
	check("ann", "bob", "eve", "")
	tick(t, s, 59)
	well(t, s, op{Kind: "renew", Client: 1})
	check("ann", "bob", "eve", "")
	s = open(t, d, 30)
	join(t, s, "waits")
	check("ann", "bob", "eve", "waits")
	tick(t, s, 30)
	well(t, s, op{Kind: "renew", Client: 1})
	tick(t, s, 30)
	check("ann", "bob", "eve", "waits") // a tick writes nothing
	do(t, s)
	check("", "", "", "waits")
}

// P181, P182: who goes in grace, as its lease is over, or since it comes anew, has its name kept if it was there at Open, and only then.
func TestNamesGoInGrace(t *testing.T) {
	d, _ := office(t)
	s := open(t, d, 30)
	tick(t, s, 1)
	join(t, s, "ann")
	join(t, s, "eve")
	join(t, s, "eve")
	if !isKnown(t, d, "ann") || !isKnown(t, d, "bob") || !isKnown(t, d, "eve") {
		t.Error("not known")
	}
	tick(t, s, 59)
	do(t, s)
	if !isKnown(t, d, "ann") || isKnown(t, d, "bob") || !isKnown(t, d, "eve") {
		t.Error("bob, who did not come again, is known, or others are not")
	}
	tick(t, s, 1)
	do(t, s)
	if isKnown(t, d, "ann") || isKnown(t, d, "eve") {
		t.Error("known, though they are gone")
	}
}

// P181: as many clients as can be are known, by names of any bytes that a name may have.
func TestManyNames(t *testing.T) {
	d, s := begin(t, 1000, 30)
	var names []string
	for i := range api.MaxClients {
		names = append(names, "_.-AZ09"[i%7:i%7+1]+"abcdefghijklmnopqrstu"+strconv.Itoa(i%10)+string(rune('a'+i)))
	}
	for _, name := range names {
		join(t, s, name)
	}
	for _, name := range names {
		if !isKnown(t, d, name) || isKnown(t, d, name[1:]) {
			t.Error(name)
		}
	}
}
