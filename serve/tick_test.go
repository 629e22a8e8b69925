package serve_test

import (
	"math"
	"reflect"
	"testing"

	"pigeonholes/api"
	"pigeonholes/lock"
	"pigeonholes/serve"
	"pigeonholes/share"
)

// P114: lease.Tick's error; then nothing has changed, and no time went by.
func TestTickErrors(t *testing.T) {
	s := office(t, 1)
	opens(t, s, "a", 1, 1, 0, 1)
	before := look(s)
	for _, n := range []int{math.MinInt, -1, far + 1, math.MaxInt} {
		if err := s.Tick(n); err != api.ErrBound {
			t.Error(n, err)
		}
	}
	tick(t, s, 0)
	tick(t, s, api.Lease-1)
	if !reflect.DeepEqual(before, look(s)) || !isThere(t, s, 1) {
		t.Error(before, look(s))
	}
	tick(t, s, far)
	checkOpens(t, s)
}

// P114: opens, locks and turns of who is gone are gone, pins too; those of others stay.
func TestTickForgets(t *testing.T) {
	s := office(t, 3)
	a, b, c := opens(t, s, "a", 1, 1, 5, 3), opens(t, s, "a", 2, 1, 5, 3), opens(t, s, "b", 3, 1, 5, 1)
	d := opens(t, s, "d/c", 1, 2, 5, 1)
	for i, st := range []state{a, b, c, d} {
		well(t, s, locks("lock", st, 10*i, 5, api.Read))
	}
	well(t, s, root, remove("b"))
	well(t, s, at("d", remove("c"))...)
	well(t, s, root, remove("a"))
	if n := s.Tree().Nodes(); n != 5 {
		t.Error(n)
	}
	tick(t, s, api.Lease-1)
	well(t, s, renew(2))
	if len(s.Opens()) != 4 || len(s.Locks()) != 4 {
		t.Error(s.Opens(), s.Locks())
	}
	tick(t, s, 1)
	checkOpens(t, s, share.Open{H: nodeA, Owner: b.ID, Access: 3})
	checkLocks(t, s, lock.Lock{H: nodeA, Owner: b.ID, R: api.Range{At: 10, Size: 5}})
	if n := s.Tree().Nodes(); n != 3 {
		t.Error(n)
	}
	for _, st := range []state{a, c, d} {
		fails(t, s, api.ErrNone, locks("unlock", st, 0, 1, 0))
	}
	fails(t, s, api.ErrNone, shut(1, 1, 6, a))
	fails(t, s, api.ErrSeq, shut(2, 1, 7, b))
	well(t, s, shut(2, 1, 6, b))
	if n := s.Tree().Nodes(); n != 2 {
		t.Error(n)
	}
}

// P114: the turns of who is gone make room for others; what it was answered is told to nobody.
func TestTickForgetsTurns(t *testing.T) {
	s := office(t, 2)
	for i := range api.MaxOwners {
		fails(t, s, api.ErrNone, shut(1, i, i, state{}))
	}
	fails(t, s, api.ErrFull, shut(2, 1, 0, state{}))
	tick(t, s, api.Lease-1)
	well(t, s, renew(2))
	tick(t, s, 1)
	fails(t, s, api.ErrNone, renew(1))
	for i := range api.MaxOwners {
		opens(t, s, "a", 2, i, 100+i, 1)
	}
	n := join(t, s, "c1")
	fails(t, s, api.ErrFull, shut(n, 1, 1, state{}))
}

// renewing are the ops that renew the lease of client 1, whose open of a has the state 1, 1; and ops with errors that are told only behind that.
func renewing() map[string][]op {
	st := state{ID: 1, Seq: 1}
	return map[string][]op{
		"renew":              {renew(1)},
		"confirm":            {{Kind: "confirm", Client: 1, A: 1}},
		"open":               at("b", open(1, 1, 1, 1)),
		"open of a dir":      at("d", open(1, 1, 1, 1)),
		"open again":         at("a", open(1, 1, 0, 1)),
		"open, wrong turn":   at("a", open(1, 1, 7, 1)),
		"close":              {shut(1, 1, 1, st)},
		"close, old":         {shut(1, 1, 1, state{ID: 1})},
		"close again":        {shut(1, 1, 0, st)},
		"down":               {down(1, 1, 1, 1, st)},
		"down, bound":        {down(1, 1, 1, 0, st)},
		"lock":               {locks("lock", st, 0, 1, 1)},
		"lock, no kind":      {locks("lock", st, 0, 1, 0)},
		"lock, bound":        {locks("lock", st, -1, 1, 1)},
		"lock, no access":    {locks("lock", st, 0, 1, 2)},
		"test":               {locks("test", st, 0, 1, 1)},
		"unlock":             {locks("unlock", st, 0, 1, 0)},
		"unlock, bound":      {locks("unlock", st, 0, -1, 0)},
		"read":               at("a", read(0, 1, st)),
		"read, bound":        at("a", read(-1, 1, st)),
		"read, another file": at("b", read(0, 1, st)),
		"write, no access":   at("a", write(0, "x", st)),
		"resize, no access":  at("a", resize(0, st)),
	}
}

// passing are ops that do not.
func passing() map[string][]op {
	return map[string][]op{
		"nothing":          nil,
		"register":         {{Kind: "client", Name: "c1"}},
		"wrong key":        {{Kind: "confirm", Client: 1, A: 2}},
		"another":          {renew(2)},
		"open, nowhere":    {open(1, 1, 1, 1)},
		"open of another":  at("a", open(2, 1, 1, 1)),
		"close by another": {shut(2, 1, 1, state{ID: 1, Seq: 1})},
		"lock, old":        {locks("lock", state{ID: 1}, 0, 1, 1)},
		"test, old":        {locks("test", state{ID: 1}, 0, 1, 1)},
		"unlock, shape":    {locks("unlock", state{ID: 1, Seq: 2}, 0, 1, 1)},
		"read by anyone":   at("a", read(0, 1, state{})),
		"write by anyone":  at("a", write(0, "x", state{})),
		"resize by anyone": at("a", resize(0, state{})),
		"read, old":        at("a", read(0, 1, state{ID: 1})),
		"read of a dir":    at("d", read(0, 1, state{ID: 1, Seq: 1})),
		"write, shape":     at("a", write(0, "x", state{ID: 1, Seq: 2})),
	}
}

// staysBy: is client 1 there two ticks ahead of two leases' end, if it is only heard of by this, a tick ahead of the first one's?
func staysBy(t *testing.T, l []op) bool {
	t.Helper()
	s := office(t, 2)
	opens(t, s, "a", 1, 1, 0, api.Read)
	tick(t, s, api.Lease-1)
	do(t, s, l...)
	tick(t, s, api.Lease-1)
	return isThere(t, s, 1)
}

// P112, P113: the lease begins anew by what a client does, also where that has an error behind it, or is told again; by nothing else.
func TestWhatRenews(t *testing.T) {
	for name, l := range renewing() {
		if !staysBy(t, l) {
			t.Error(name, "does not renew")
		}
	}
	for name, l := range passing() {
		if staysBy(t, l) {
			t.Error(name, "renews")
		}
	}
}

// P112, P113: write and resize renew too, of an open that may write.
func TestWritingRenews(t *testing.T) {
	for _, x := range []op{write(0, "x", state{ID: 1, Seq: 1}), resize(1, state{ID: 1, Seq: 1}), locks("lock", state{ID: 1, Seq: 1}, 0, 0, 2)} {
		s := office(t, 1)
		opens(t, s, "a", 1, 1, 0, api.Write)
		for range 5 {
			tick(t, s, api.Lease-1)
			well(t, s, at("a", x)...)
		}
		if !isThere(t, s, 1) {
			t.Error(x)
		}
	}
}

// P113: of any client: the lease that is renewed is that of the open's client.
func TestRenewsTheOpensClient(t *testing.T) {
	s := office(t, 2)
	st := opens(t, s, "a", 1, 1, 0, 1)
	tick(t, s, api.Lease-1)
	x := locks("lock", st, 0, 1, 1)
	x.Client = 2
	well(t, s, x)
	tick(t, s, 1)
	if !isThere(t, s, 1) || isThere(t, s, 2) {
		t.Error("not the open's client")
	}
}

// P112, P114: what was a client's cannot come back with its name.
func TestNewNumberHasNothing(t *testing.T) {
	s := office(t, 1)
	st := opens(t, s, "a", 1, 1, 0, 3+12)
	tick(t, s, api.Lease)
	n := join(t, s, "c1")
	fails(t, s, api.ErrNone, shut(n, 1, 1, st))
	well(t, s, at("a", write(0, "x", state{}))...)
	if st := opens(t, s, "a", n, 1, 2, 1); st != (state{ID: 2, Seq: 1}) {
		t.Error(st)
	}
}

// P110: each server has its own clients, opens and numbers.
func TestServersOwn(t *testing.T) {
	s, x := office(t, 1), office(t, 1)
	for _, y := range []*serve.Server{s, x} {
		if st := opens(t, y, "a", 1, 1, 0, 15); st != (state{ID: 1, Seq: 1}) {
			t.Error(st)
		}
	}
	tick(t, s, api.Lease)
	checkOpens(t, s)
	if len(x.Opens()) != 1 || !isThere(t, x, 1) {
		t.Error(x.Opens())
	}
}
