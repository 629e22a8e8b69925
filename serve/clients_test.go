package serve_test

import (
	"math"
	"reflect"
	"strconv"
	"testing"

	"pigeonholes/api"
	"pigeonholes/lock"
	"pigeonholes/serve"
	"pigeonholes/share"
)

// office makes a server with the files a and b, the directory d with the file d/c, and as many clients as asked for, from 1 on.
func office(t *testing.T, clients int) *serve.Server {
	t.Helper()
	s := begin(t, 300)
	well(t, s, root, file("a"), root, file("b"), root, dir("d"), file("c"))
	for i := range clients {
		if n := join(t, s, "c"+strconv.Itoa(i+1)); n != i+1 {
			t.Fatal(n, i)
		}
	}
	return s
}

// nodes of the office.
var (
	nodeA = api.Handle{Node: 1}
	nodeB = api.Handle{Node: 2}
)

// P112: client: N the number, State.ID the key; lease's errors.
func TestClient(t *testing.T) {
	s := begin(t, 300)
	client := func(name string, boot int) op { return op{Kind: "client", Name: name, A: boot} }
	for i, boot := range []int{1, 1, 0, math.MinInt, math.MaxInt} {
		answers(t, s, reply{N: i + 1, State: state{ID: i + 1}}, client("me", boot))
	}
	for _, name := range []string{"", ".", "..", "a b", "a/b", "abcdefghijklmnopqrstuvwxyz"} {
		fails(t, s, api.ErrName, client(name, 1))
	}
	for i := range api.MaxClients - 1 {
		answers(t, s, reply{N: i + 6, State: state{ID: i + 6}}, client("c"+strconv.Itoa(i), 1))
	}
	fails(t, s, api.ErrFull, client("more", 1))
	answers(t, s, reply{N: 17, State: state{ID: 17}}, client("me", 1))
}

// P112: confirm and renew: lease's errors.
func TestConfirm(t *testing.T) {
	s := begin(t, 300)
	confirm := func(client, key int) op { return op{Kind: "confirm", Client: client, A: key} }
	fails(t, s, api.ErrNone, confirm(1, 1))
	last(t, s, op{Kind: "client", Name: "me"})
	fails(t, s, api.ErrNone, renew(1))
	fails(t, s, api.ErrShape, confirm(1, 2))
	fails(t, s, api.ErrNone, confirm(2, 2))
	well(t, s, confirm(1, 1))
	well(t, s, confirm(1, 1))
	well(t, s, renew(1))
	fails(t, s, api.ErrNone, renew(0))
	last(t, s, op{Kind: "client", Name: "me"})
	well(t, s, renew(1))
	well(t, s, confirm(2, 2))
	fails(t, s, api.ErrNone, renew(1))
	fails(t, s, api.ErrNone, confirm(1, 1))
}

// P112: confirm: opens, locks and turns of one who is gone are gone; those of others, and of one who is confirmed again, stay.
func TestConfirmForgets(t *testing.T) {
	s := office(t, 2)
	mine := opens(t, s, "a", 1, 1, 7, api.Read)
	other := opens(t, s, "a", 2, 1, 7, api.Read)
	opens(t, s, "b", 1, 2, 9, 3)
	well(t, s, locks("lock", mine, 0, 5, api.Read))
	well(t, s, locks("lock", other, 0, 5, api.Read))
	well(t, s, root, remove("b"))

	before := look(s)
	well(t, s, op{Kind: "confirm", Client: 1, A: 1})
	answers(t, s, reply{N: 3, State: state{ID: 3}}, op{Kind: "client", Name: "c1", A: 1})
	fails(t, s, api.ErrShape, op{Kind: "confirm", Client: 3, A: 1})
	if !reflect.DeepEqual(before, look(s)) {
		t.Fatal(before, look(s))
	}
	if before.nodes != 5 {
		t.Error(before.nodes)
	}
	well(t, s, op{Kind: "confirm", Client: 3, A: 3})
	checkOpens(t, s, share.Open{H: nodeA, Owner: other.ID, Access: api.Read})
	checkLocks(t, s, lock.Lock{H: nodeA, Owner: other.ID, R: api.Range{Size: 5}})
	if n := s.Tree().Nodes(); n != 4 {
		t.Error("the file that only one who is gone had open is still there:", n)
	}
	fails(t, s, api.ErrNone, at("a", open(1, 1, 8, 1))...)
	fails(t, s, api.ErrNone, locks("lock", mine, 0, 5, api.Read))
	if st := opens(t, s, "a", 3, 1, 99, api.Read); st != (state{ID: 4, Seq: 1}) {
		t.Error("the owner's turns go on:", st)
	}
	fails(t, s, api.ErrSeq, at("a", open(2, 1, 99, 1))...)
}

// P112: turns of who is gone are gone: there is room for as many owners again.
func TestTurnsOfGone(t *testing.T) {
	s := office(t, 2)
	for i := range api.MaxOwners {
		fails(t, s, api.ErrNone, shut(1+i%2, i, i, state{}))
	}
	fails(t, s, api.ErrFull, shut(1, -1, 0, state{}))
	fails(t, s, api.ErrFull, shut(2, 0, 0, state{}))
	last(t, s, op{Kind: "client", Name: "c1"})
	well(t, s, op{Kind: "confirm", Client: 3, A: 3})
	for i := range api.MaxOwners / 2 {
		fails(t, s, api.ErrNone, shut(3, i, 100+i, state{}))
	}
	fails(t, s, api.ErrFull, shut(3, -1, 0, state{}))
	fails(t, s, api.ErrSeq, shut(2, 1, 50, state{}))
	fails(t, s, api.ErrNone, shut(2, 1, 2, state{}))
}

// P112: lease.Renew's error is ahead of the turn's, and of what is done in it; then no turn is begun.
func TestOnlyConfirmed(t *testing.T) {
	s := office(t, 1)
	last(t, s, op{Kind: "client", Name: "new"})
	for _, client := range []int{math.MinInt, -1, 0, 2, 3, math.MaxInt} {
		for _, seq := range []int{-1, 0, 5, greatest + 1} {
			fails(t, s, api.ErrNone, at("d", open(client, 1, seq, 99))...)
			fails(t, s, api.ErrNone, shut(client, 1, seq, state{}))
			fails(t, s, api.ErrNone, down(client, 1, seq, 99, state{}))
		}
	}
	well(t, s, op{Kind: "confirm", Client: 2, A: 2})
	if st := opens(t, s, "a", 2, 1, 77, 1); st != (state{ID: 1, Seq: 1}) {
		t.Error(st)
	}
}

// P112: turn's errors, ahead of what is done in it; they end no turn.
func TestTurnErrors(t *testing.T) {
	s := office(t, 1)
	for _, seq := range []int{math.MinInt, -1, greatest + 1, math.MaxInt} {
		fails(t, s, api.ErrBound, at("d", open(1, 1, seq, 99))...)
		fails(t, s, api.ErrBound, shut(1, 1, seq, state{}))
		fails(t, s, api.ErrBound, down(1, 1, seq, 99, state{}))
	}
	if st := opens(t, s, "a", 1, 1, greatest, 1); st != (state{ID: 1, Seq: 1}) {
		t.Error(st)
	}
	for range 2 {
		for _, seq := range []int{1, 2, 5, greatest - 1, greatest - 2} {
			fails(t, s, api.ErrSeq, at("d", open(1, 1, seq, 99))...)
			fails(t, s, api.ErrSeq, shut(1, 1, seq, state{ID: 1, Seq: 1}))
			fails(t, s, api.ErrSeq, down(1, 1, seq, 1, state{ID: 1, Seq: 1}))
		}
		fails(t, s, api.ErrBound, shut(1, 1, greatest+1, state{ID: 1, Seq: 1}))
	}
	if st := opens(t, s, "a", 1, 1, 0, 1); st != (state{ID: 1, Seq: 2}) {
		t.Error("behind the greatest comes 0:", st)
	}
	if st := opens(t, s, "a", 1, 1, 1, 1); st != (state{ID: 1, Seq: 3}) {
		t.Error(st)
	}
	for i := range api.MaxOwners - 1 {
		fails(t, s, api.ErrNone, shut(1, 100+i, i, state{}))
	}
	fails(t, s, api.ErrFull, at("d", open(1, 2, 0, 99))...)
	fails(t, s, api.ErrFull, down(1, 2, 0, 99, state{}))
}

// P112: without a current handle an open is ErrShape, ahead of its turn: that is neither ended by it, nor told again.
func TestOpenNowhere(t *testing.T) {
	s := office(t, 1)
	fails(t, s, api.ErrShape, open(1, 1, 5, 1))
	if st := opens(t, s, "a", 1, 1, 9, 1); st != (state{ID: 1, Seq: 1}) {
		t.Error(st)
	}
	fails(t, s, api.ErrShape, open(1, 1, 9, 1))
	fails(t, s, api.ErrShape, open(1, 1, 10, 1))
	if st := opens(t, s, "a", 1, 1, 10, 1); st != (state{ID: 1, Seq: 2}) {
		t.Error(st)
	}
}

// P112, P115: what is told again changes nothing, and is answered as it was: whatever the op is by now, and whatever happened since.
func TestAgain(t *testing.T) {
	s := office(t, 2)
	again := func(want reply, seq int) {
		t.Helper()
		before := look(s)
		st := state{ID: 1, Seq: 1}
		for range 2 {
			for _, l := range [][]op{
				at("a", open(1, 1, seq, 3)), at("b", open(1, 1, seq, 15)), at("d", open(1, 1, seq, -1)), {shut(1, 1, seq, st)}, {shut(1, 1, seq, state{})},
				{down(1, 1, seq, 1, st)}, {down(1, 1, seq, 99, state{ID: 9})},
			} {
				answers(t, s, want, l...)
			}
		}
		if !reflect.DeepEqual(before, look(s)) {
			t.Fatal(before, look(s))
		}
	}
	answers(t, s, reply{State: state{ID: 1, Seq: 1}}, at("a", open(1, 1, 7, 3))...)
	again(reply{State: state{ID: 1, Seq: 1}}, 7)
	answers(t, s, reply{State: state{ID: 1, Seq: 2}}, at("a", open(1, 1, 8, 5))...)
	again(reply{State: state{ID: 1, Seq: 2}}, 8)
	fails(t, s, api.ErrFile, at("d", open(1, 1, 9, 3))...)
	again(reply{Code: 8}, 9)
	fails(t, s, api.ErrOld, shut(1, 1, 10, state{ID: 1, Seq: 1}))
	again(reply{Code: 13}, 10)
	answers(t, s, reply{State: state{ID: 1, Seq: 3}}, down(1, 1, 11, 1, state{ID: 1, Seq: 2}))
	again(reply{State: state{ID: 1, Seq: 3}}, 11)
	well(t, s, shut(1, 1, 12, state{ID: 1, Seq: 3}))
	again(reply{}, 12)
	well(t, s, root, remove("a"))
	answers(t, s, reply{}, shut(1, 1, 12, state{ID: 1, Seq: 3}))
	fails(t, s, api.ErrNone, shut(1, 1, 13, state{ID: 1, Seq: 3}))
	answers(t, s, reply{Code: 5}, at("b", open(1, 1, 13, 3))...)
}

// P110, P112: an error that is told again ends a compound, as it did.
func TestAgainEnds(t *testing.T) {
	s := office(t, 1)
	fails(t, s, api.ErrNone, shut(1, 1, 1, state{}))
	r := do(t, s, shut(1, 1, 1, state{}), root)
	if len(r) != 1 || !same(r[0], reply{Code: 5}) {
		t.Error(r)
	}
	opens(t, s, "a", 1, 1, 2, 1)
	answers(t, s, reply{H: nodeB}, at("b", open(1, 1, 2, 1), handle)...)
}

// P112: owners of unlike clients are unlike, and so are a client's own: each has its turns, and its opens.
func TestOwnersAreUnlike(t *testing.T) {
	s := office(t, 2)
	for i, by := range [][2]int{{1, 1}, {2, 1}, {1, 2}, {2, 2}, {1, -1}, {1, 0}, {1, math.MaxInt}, {1, math.MinInt}} {
		if st := opens(t, s, "a", by[0], by[1], 10*i, api.Read); st != (state{ID: i + 1, Seq: 1}) {
			t.Error(by, st)
		}
	}
	for i, by := range [][2]int{{1, 1}, {2, 1}, {1, 2}, {2, 2}, {1, -1}, {1, 0}, {1, math.MaxInt}, {1, math.MinInt}} {
		answers(t, s, reply{State: state{ID: i + 1, Seq: 1}}, at("a", open(by[0], by[1], 10*i, api.Read))...)
		if st := opens(t, s, "a", by[0], by[1], 10*i+1, api.Read); st != (state{ID: i + 1, Seq: 2}) {
			t.Error(by, st)
		}
	}
	fails(t, s, api.ErrNone, shut(2, 1, 12, state{ID: 1, Seq: 2}))
	fails(t, s, api.ErrNone, shut(1, 2, 22, state{ID: 1, Seq: 2}))
	fails(t, s, api.ErrNone, down(2, 2, 32, 1, state{ID: 1, Seq: 2}))
	well(t, s, shut(1, 1, 2, state{ID: 1, Seq: 2}))
	if len(s.Opens()) != 7 {
		t.Error(s.Opens())
	}
}

// P112: open: ErrStale, ErrFile, then share's errors; each of them ends the turn, and takes no number of an open.
func TestOpenErrors(t *testing.T) {
	s := office(t, 2)
	if st := opens(t, s, "b", 2, 1, 0, 1+4*api.Write); st != (state{ID: 1, Seq: 1}) {
		t.Fatal(st)
	}
	answers(t, s, reply{Code: 10}, root, file("x"), save, root, remove("x"), restore, open(1, 1, 0, 99))
	fails(t, s, api.ErrFile, root, open(1, 1, 1, 99))
	fails(t, s, api.ErrFile, at("d", open(1, 1, 2, 99))...)
	seq := 3
	for _, c := range []int{math.MinInt, -16, -15, -5, -4, -3, -1, 0, 4, 8, 12, 16, 17, 18, 19, 31, 1 << 32, math.MaxInt} {
		fails(t, s, api.ErrBound, at("b", open(1, 1, seq, c))...)
		fails(t, s, api.ErrSeq, at("b", open(1, 1, seq+2, c))...)
		seq++
	}
	fails(t, s, api.ErrHeld, at("b", open(1, 1, seq, api.Write))...)
	fails(t, s, api.ErrHeld, at("b", open(1, 1, seq+1, api.Read+4*api.Read))...)
	if st := opens(t, s, "b", 1, 1, seq+2, api.Read); st != (state{ID: 2, Seq: 1}) {
		t.Error("an open that failed took a number:", st)
	}
	checkOpens(t, s, share.Open{H: nodeB, Owner: 1, Access: 1, Deny: 2}, share.Open{H: nodeB, Owner: 2, Access: 1})
}

// P112: C is access and 4 times deny, of open and down.
func TestAccessAndDeny(t *testing.T) {
	s := office(t, 1)
	seq := 0
	for c := range 16 {
		if c%4 == 0 {
			continue
		}
		st := opens(t, s, "a", 1, 1, seq, c)
		checkOpens(t, s, share.Open{H: nodeA, Owner: st.ID, Access: c % 4, Deny: c / 4})
		if st = opens(t, s, "a", 1, 1, seq+1, 15); st.Seq != 2 {
			t.Error(st)
		}
		checkOpens(t, s, share.Open{H: nodeA, Owner: st.ID, Access: 3, Deny: 3})
		answers(t, s, reply{State: state{ID: st.ID, Seq: 3}}, down(1, 1, seq+2, c, st))
		checkOpens(t, s, share.Open{H: nodeA, Owner: st.ID, Access: c % 4, Deny: c / 4})
		well(t, s, shut(1, 1, seq+3, state{ID: st.ID, Seq: 3}))
		checkOpens(t, s)
		seq += 4
	}
}

// P112: one open for each client, owner and file: opened again it has what it had, and that besides, and its Seq is one more; another file's is another one; numbers are never given twice.
func TestOneOpenForEach(t *testing.T) {
	s := office(t, 1)
	for i, c := range []struct {
		path     string
		c        int
		want     state
		sum, all int
	}{
		{"a", 1, state{ID: 1, Seq: 1}, 1, 1}, {"a", 1, state{ID: 1, Seq: 2}, 1, 1}, {"b", 2, state{ID: 2, Seq: 1}, 2, 2}, {"a", 2, state{ID: 1, Seq: 3}, 3, 2},
		{"d/c", 1, state{ID: 3, Seq: 1}, 1, 3}, {"a", 1 + 4, state{ID: 1, Seq: 4}, 3 + 4, 3}, {"a", 2 + 8, state{ID: 1, Seq: 5}, 15, 3}, {"b", 3, state{ID: 2, Seq: 2}, 3, 3},
	} {
		if st := opens(t, s, c.path, 1, 1, i, c.c); st != c.want {
			t.Fatal(i, st)
		}
		h, l := handleOf(t, s, c.path), s.Opens()
		for _, o := range l {
			if o.Owner == c.want.ID && o != (share.Open{H: h, Owner: c.want.ID, Access: c.sum % 4, Deny: c.sum / 4}) {
				t.Error(i, o)
			}
		}
		if len(l) != c.all {
			t.Error(i, l)
		}
	}
	well(t, s, shut(1, 1, 8, state{ID: 3, Seq: 1}))
	if st := opens(t, s, "d/c", 1, 1, 9, 1); st != (state{ID: 4, Seq: 1}) {
		t.Error(st)
	}
	fails(t, s, api.ErrNone, shut(1, 1, 10, state{ID: 3, Seq: 1}))
}

// P112: a file by two names is one file; another file in the place of one is another.
func TestOpenIsOfTheFile(t *testing.T) {
	s := office(t, 1)
	well(t, s, root, lookup("a"), save, root, op{Kind: "link", Name: "z"})
	opens(t, s, "a", 1, 1, 0, 1)
	if st := opens(t, s, "z", 1, 1, 1, 1); st != (state{ID: 1, Seq: 2}) {
		t.Error(st)
	}
	opens(t, s, "b", 1, 1, 2, 1)
	well(t, s, root, remove("b"))
	well(t, s, root, file("b"))
	if st := opens(t, s, "b", 1, 1, 3, 1); st != (state{ID: 3, Seq: 1}) {
		t.Error(st)
	}
}

// P112: ErrFull: MaxOpens; one that is there already can be opened again.
func TestMaxOpens(t *testing.T) {
	s := office(t, 1)
	for i := range api.MaxOpens {
		well(t, s, root, file("f"+strconv.Itoa(i)))
		opens(t, s, "f"+strconv.Itoa(i), 1, 1, i, 1)
	}
	fails(t, s, api.ErrFull, at("a", open(1, 1, 40, 1))...)
	if st := opens(t, s, "f0", 1, 1, 41, 2); st != (state{ID: 1, Seq: 2}) {
		t.Error(st)
	}
	well(t, s, shut(1, 1, 42, state{ID: 1, Seq: 2}))
	if st := opens(t, s, "a", 1, 1, 43, 1); st != (state{ID: 41, Seq: 1}) {
		t.Error("an open that failed took a number:", st)
	}
}

// P112: close and down: ErrNone, ErrOld, ErrShape of the state, then share's; each ends its turn, and changes nothing else.
func TestCloseDownErrors(t *testing.T) {
	s := office(t, 2)
	opens(t, s, "a", 1, 1, 0, 1)
	st := opens(t, s, "a", 1, 1, 1, 1+4*api.Write)
	opens(t, s, "a", 2, 1, 0, 1)
	seq := 2
	next := func(want error, x op) {
		t.Helper()
		x.Client, x.B, x.A = 1, 1, seq
		fails(t, s, want, x)
		fails(t, s, want, x)
		seq++
	}
	for _, id := range []int{math.MinInt, -1, 0, 2, 3, math.MaxInt} {
		for _, n := range []int{-1, 0, 1, 2} {
			next(api.ErrNone, op{Kind: "close", State: state{ID: id, Seq: n}})
			next(api.ErrNone, op{Kind: "down", C: 99, State: state{ID: id, Seq: n}})
		}
	}
	for _, n := range []int{math.MinInt, -1, 0, 1} {
		next(api.ErrOld, op{Kind: "close", State: state{ID: st.ID, Seq: n}})
		next(api.ErrOld, op{Kind: "down", C: 99, State: state{ID: st.ID, Seq: n}})
	}
	for _, n := range []int{3, 4, math.MaxInt} {
		next(api.ErrShape, op{Kind: "close", State: state{ID: st.ID, Seq: n}})
		next(api.ErrShape, op{Kind: "down", C: 99, State: state{ID: st.ID, Seq: n}})
	}
	for _, c := range []int{math.MinInt, -4, -3, -1, 0, 4, 8, 12, 16, 17, math.MaxInt} {
		next(api.ErrBound, op{Kind: "down", C: c, State: st})
	}
	for _, c := range []int{2, 3, 1 + 4, 2 + 8, 3 + 12} {
		next(api.ErrShape, op{Kind: "down", C: c, State: st})
	}
	answers(t, s, reply{State: state{ID: 1, Seq: 3}}, down(1, 1, seq, 1+8, st))
	answers(t, s, reply{Code: 13}, shut(1, 1, seq+1, st))
	x := shut(1, 1, seq+2, state{ID: 1, Seq: 3})
	x.C = -99
	well(t, s, x)
	fails(t, s, api.ErrNone, shut(1, 1, seq+3, state{ID: 1, Seq: 3}))
}

// P112: close: its locks go, and no other ones; down: they stay. CUR means nothing to both.
func TestCloseDropsLocks(t *testing.T) {
	s := office(t, 1)
	a, b, c := opens(t, s, "a", 1, 1, 0, 3), opens(t, s, "a", 1, 2, 0, 3), opens(t, s, "b", 1, 1, 1, 3)
	for _, st := range []state{a, b, c} {
		well(t, s, locks("lock", st, 10*st.ID, 2, api.Write))
		well(t, s, locks("lock", st, 10*st.ID+5, 2, api.Read))
	}
	held := s.Locks()
	answers(t, s, reply{State: state{ID: a.ID, Seq: 2}}, down(1, 1, 2, api.Read, a))
	checkLocks(t, s, held...)
	well(t, s, root, shut(1, 1, 3, state{ID: a.ID, Seq: 2}))
	var rest []lock.Lock
	for _, l := range held {
		if l.Owner != a.ID {
			rest = append(rest, l)
		}
	}
	checkLocks(t, s, rest...)
	checkOpens(t, s, share.Open{H: nodeA, Owner: b.ID, Access: 3}, share.Open{H: nodeB, Owner: c.ID, Access: 3})
	if len(rest) != 4 {
		t.Error(rest)
	}
}

// P112: a file is pinned as long as it is open: without a name it can be read and written by who still has it, and goes with the last open of it, not ahead of it.
func TestOpenPins(t *testing.T) {
	s := office(t, 2)
	mine := opens(t, s, "a", 1, 1, 0, 1)
	if mine = opens(t, s, "a", 1, 1, 1, 1); mine.Seq != 2 {
		t.Fatal(mine)
	}
	other := opens(t, s, "a", 2, 1, 0, 3)
	before := s.Tree().Nodes()
	answers(t, s, reply{Text: "abc", End: true}, root, lookup("a"), save, root, remove("a"), restore, write(0, "abc", other), read(0, 9, mine))
	well(t, s, root, file("new"))
	if h := handleOf(t, s, "new"); h != (api.Handle{Node: 5}) {
		t.Error("the number of a file that is open was given:", h)
	}
	well(t, s, locks("lock", other, 0, 1, 2))
	well(t, s, shut(2, 1, 1, other))
	if n := s.Tree().Nodes(); n != before+1 {
		t.Error(n)
	}
	well(t, s, shut(1, 1, 2, mine))
	if n := s.Tree().Nodes(); n != before {
		t.Error(n)
	}
	well(t, s, root, file("newer"))
	if h := handleOf(t, s, "newer"); h != (api.Handle{Node: 1, Gen: 1}) {
		t.Error(h)
	}
	well(t, s, shut(1, 1, 2, mine))
	if n := s.Tree().Nodes(); n != before+1 {
		t.Error("told again, it is closed again:", n)
	}
}

// P112: a file that took part in no open any more is as one that was never open.
func TestClosedIsNotPinned(t *testing.T) {
	s := office(t, 1)
	for i := range 3 {
		st := opens(t, s, "a", 1, 1, 4*i, 1)
		st = opens(t, s, "a", 1, 1, 4*i+1, 1)
		answers(t, s, reply{State: state{ID: st.ID, Seq: 3}}, down(1, 1, 4*i+2, 1, st))
		well(t, s, shut(1, 1, 4*i+3, state{ID: st.ID, Seq: 3}))
	}
	before := s.Tree().Nodes()
	well(t, s, root, remove("a"))
	if n := s.Tree().Nodes(); n != before-1 {
		t.Error(n)
	}
}
