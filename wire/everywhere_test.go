package wire_test

import (
	"reflect"
	"slices"
	"strings"
	"sync"
	"testing"

	"pigeonholes/api"
	"pigeonholes/serve"
	"pigeonholes/wire"
)

// P4: what is handed over is only read, and what lies behind a list's length not even that.
func TestListsAreOnlyRead(t *testing.T) {
	ops := []op{wholeOp(), {}, {Kind: "behind"}}
	replies := []reply{wholeReply(), {L: []entry{{Name: "a"}, {Name: "behind"}}[:1]}, {Text: "behind"}}
	for range 2 {
		if s, err := wire.Ops(ops[:2]); s != textOfOps(wholeOp(), op{}) || err != nil {
			t.Errorf("%q, %v", s, err)
		}
		if s, err := wire.Replies(replies[:2]); s != textOfReplies(wholeReply(), reply{L: []entry{{Name: "a"}}}) || err != nil {
			t.Errorf("%q, %v", s, err)
		}
	}
	if !sameOps(ops, []op{wholeOp(), {}, {Kind: "behind"}}) {
		t.Errorf("%+v", ops)
	}
	if !sameReplies(replies, []reply{wholeReply(), {L: []entry{{Name: "a"}}}, {Text: "behind"}}) || replies[1].L[:2][1].Name != "behind" {
		t.Errorf("%+v", replies)
	}
}

// P4: what is answered is new memory: lists of one answer, and of two answers, do not see each other.
func TestAnswersAreApart(t *testing.T) {
	want := []reply{wholeReply(), wholeReply(), {}, {L: make([]entry, 5)}, wholeReply()}
	s := textOfReplies(want...)
	a, err := wire.ReadReplies(s)
	if err != nil {
		t.Fatal(err)
	}
	for i := range a {
		for j := range a[i].L {
			a[i].L[j].Name = "other"
		}
		a[i].L = append(a[i].L, entry{Name: "more"}, entry{Name: strings.Repeat("m", i)})
	}
	for i := range a {
		l := slices.Clone(want[i].L)
		for j := range l {
			l[j].Name = "other"
		}
		if l = append(l, entry{Name: "more"}, entry{Name: strings.Repeat("m", i)}); !slices.Equal(a[i].L, l) {
			t.Errorf("%d: %+v; want %+v", i, a[i].L, l)
		}
	}
	if b, err := wire.ReadReplies(s); !sameReplies(b, want) || err != nil {
		t.Errorf("%+v, %v", b, err)
	}
}

// P2: an answer hangs on what is given alone, whatever others ask side by side.
func TestSideBySide(t *testing.T) {
	var wait sync.WaitGroup
	for i := range 8 {
		wait.Go(func() {
			for n := range 200 {
				o, r := wholeOp(), wholeReply()
				o.A, r.N = i-n, n-i
				s, err := wire.Ops([]op{o})
				ops, bad := wire.ReadOps(s)
				if s != textOfOps(o) || err != nil || !sameOps(ops, []op{o}) || bad != nil {
					t.Errorf("%d: %q, %v, %+v, %v", i, s, err, ops, bad)
				}
				s, err = wire.Replies([]reply{r})
				replies, bad := wire.ReadReplies(s)
				if s != textOfReplies(r) || err != nil || !sameReplies(replies, []reply{r}) || bad != nil {
					t.Errorf("%d: %q, %v, %+v, %v", i, s, err, replies, bad)
				}
			}
		})
	}
	wait.Wait()
}

// P121, and what README.md says: a compound that goes over the wire, and its replies that come back, are as if there were none.
func TestCompoundsOverTheWire(t *testing.T) {
	here, err := serve.New(20)
	if err != nil {
		t.Fatal(err)
	}
	there, err := serve.New(20)
	if err != nil {
		t.Fatal(err)
	}
	for _, l := range [][]op{
		{{Kind: "root"}, {Kind: "make", Name: "a.txt", A: api.File}, {Kind: "write", Text: "abc"}, {Kind: "handle"}},
		{{Kind: "root"}, {Kind: "make", Name: "docs", A: api.Dir}, {Kind: "up"}, {Kind: "list", B: 60}, {Kind: "attr", A: 31}},
		{{Kind: "client", Name: "ann", A: 1}, {Kind: "confirm", Client: 1, A: 1}, {Kind: "root"}, {Kind: "lookup", Name: "a.txt"}, {Kind: "open", Client: 1, B: -7, C: 3}},
		{{Kind: "lock", A: 1, B: 2, C: 2, State: api.State{ID: 1, Seq: 1}}, {Kind: "root"}, {Kind: "lookup", Name: "a.txt"}, {Kind: "read", B: 9}, {Kind: "list", B: 1}},
		{{Kind: "root"}, {Kind: "lookup", Name: "b.txt"}, {Kind: "handle"}},
		{{Kind: "no kind"}},
		{},
	} {
		want, err := here.Compound(l)
		if err != nil {
			t.Fatal(err)
		}
		s, err := wire.Ops(l)
		if err != nil {
			t.Fatal(err)
		}
		ops, err := wire.ReadOps(s)
		if err != nil {
			t.Fatal(err)
		}
		did, err := there.Compound(ops)
		if err != nil {
			t.Fatal(err)
		}
		if s, err = wire.Replies(did); err != nil {
			t.Fatal(err)
		}
		got, err := wire.ReadReplies(s)
		if !sameReplies(got, want) || err != nil {
			t.Errorf("%+v: %+v, %v; want %+v", l, got, err, want)
		}
	}
	if here.Tree().Snapshot() != there.Tree().Snapshot() || !reflect.DeepEqual(here.Opens(), there.Opens()) || !reflect.DeepEqual(here.Locks(), there.Locks()) {
		t.Error("the servers are unlike")
	}
}
