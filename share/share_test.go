package share_test

import (
	"errors"
	"math"
	"slices"
	"sync"
	"testing"

	"pigeonholes/api"
	"pigeonholes/plain"
	"pigeonholes/share"
)

// What the package exports, as it was given.
var (
	_ func(*share.Table, api.Handle, int, int, int) error = (*share.Table).Open
	_ func(*share.Table, api.Handle, int, int, int) error = (*share.Table).Down
	_ func(*share.Table, api.Handle, int) error           = (*share.Table).Close
	_ func(*share.Table, api.Handle, int, int) error      = (*share.Table).May
	_ func(*share.Table, api.Handle, int) error           = (*share.Table).Anyone
	_ func(*share.Table, int) int                         = (*share.Table).Drop
	_ func(*share.Table) []share.Open                     = (*share.Table).List
	_                                                     = struct {
		H                   api.Handle
		Owner, Access, Deny int
	}(share.Open{})
)

// Files that are opened here: two of one number, and another one.
var (
	file  = api.Handle{Node: 1}
	again = api.Handle{Node: 1, Gen: 1}
	other = api.Handle{Node: 2}
)

// Numbers that are no access, and no deny.
var wrong = []int{-1, -2, -3, 4, 5, 7, 8, 16, 1 << 32, 1<<32 + 1, math.MinInt, math.MinInt + 1, math.MaxInt}

// Numbers that an owner can have, as any other.
var owners = []int{math.MinInt, -1, 0, 1, 2, 1 << 32, math.MaxInt}

// well: it must go well.
func well(t *testing.T, err error) {
	t.Helper()
	if err != nil {
		t.Fatal(err)
	}
}

// opened makes a table that has opens.
func opened(t *testing.T, l ...share.Open) *share.Table {
	t.Helper()
	x := &share.Table{}
	for _, o := range l {
		well(t, x.Open(o.H, o.Owner, o.Access, o.Deny))
	}
	return x
}

// check what is open.
func check(t *testing.T, x *share.Table, want ...share.Open) {
	t.Helper()
	if l := x.List(); !slices.Equal(l, want) {
		t.Fatalf("%v; want %v", l, want)
	}
}

// checkErr: the error itself, without a place.
func checkErr(t *testing.T, err, want error) {
	t.Helper()
	var fault *api.Fault
	if err != want || errors.As(err, &fault) {
		t.Fatalf("%v; want %v", err, want)
	}
	if _, at := plain.Code(err); err != nil && at != -1 {
		t.Errorf("%v at %d", err, at)
	}
}

// full makes a table with as many opens as can be: of one file, by owners from 0 on, who read it, and deny that it is written.
func full(t *testing.T) *share.Table {
	t.Helper()
	x := &share.Table{}
	for i := range api.MaxOpens {
		well(t, x.Open(file, i, api.Read, api.Write))
	}
	return x
}

// P70: the zero value has no opens: nothing may be done by an owner, everything by one who needs no open.
func TestZero(t *testing.T) {
	var x share.Table
	check(t, &x)
	for _, h := range []api.Handle{{}, file, {Node: -1, Gen: -1}, {Node: math.MaxInt, Gen: math.MinInt}} {
		for access := api.Read; access <= api.Read+api.Write; access++ {
			checkErr(t, x.May(h, 1, access), api.ErrNone)
			checkErr(t, x.Anyone(h, access), nil)
			checkErr(t, x.Down(h, 1, access, 0), api.ErrNone)
		}
		checkErr(t, x.Close(h, 1), api.ErrNone)
	}
	for _, owner := range owners {
		if n := x.Drop(owner); n != 0 {
			t.Errorf("%d opens of %d", n, owner)
		}
	}
	check(t, &x)
}

// P70, P71: access from 1 to 3, deny from 0 to 3, of any node and any owner.
func TestOpenNew(t *testing.T) {
	for access := 1; access <= 3; access++ {
		for deny := 0; deny <= 3; deny++ {
			for _, owner := range owners {
				for _, h := range []api.Handle{{}, file, again, {Node: -1, Gen: -2}, {Node: math.MaxInt, Gen: math.MinInt}} {
					o := share.Open{H: h, Owner: owner, Access: access, Deny: deny}
					check(t, opened(t, o), o)
				}
			}
		}
	}
}

// P70: one open for each node and owner; P71: what is opened again has what it had, and that besides.
func TestOpenAgain(t *testing.T) {
	for had := range 12 {
		for more := range 12 {
			o := share.Open{H: file, Owner: 7, Access: had/4 + 1, Deny: had % 4}
			x := opened(t, o)
			well(t, x.Open(file, 7, more/4+1, more%4))
			o.Access |= more/4 + 1
			o.Deny |= more % 4
			check(t, x, o)
		}
	}
}

// P70: unlike owners, unlike nodes and unlike times of a number have opens of their own.
func TestOpensAreTheirOwn(t *testing.T) {
	a := share.Open{H: file, Owner: 1, Access: 1}
	b := share.Open{H: file, Owner: 2, Access: 1, Deny: 2}
	c := share.Open{H: again, Owner: 1, Access: 3, Deny: 3}
	d := share.Open{H: other, Owner: 1, Access: 2, Deny: 1}
	x := opened(t, a, b, c, d)
	check(t, x, a, b, c, d)
	well(t, x.Down(file, 2, 1, 0))
	b.Deny = 0
	check(t, x, a, b, c, d)
	well(t, x.Open(file, 1, 2, 0))
	a.Access = 3
	check(t, x, a, b, c, d)
	well(t, x.Close(again, 1))
	check(t, x, a, b, d)
}

// P71, P73: of all pairs those go together of which neither has what the other one denies; P3: who is held changes nothing.
func TestOpenBesideAnother(t *testing.T) {
	for first := range 12 {
		for second := range 12 {
			a := share.Open{H: file, Owner: 1, Access: first/4 + 1, Deny: first % 4}
			b := share.Open{H: file, Owner: 2, Access: second/4 + 1, Deny: second % 4}
			x := opened(t, a)
			if goTogether(a, b) {
				well(t, x.Open(b.H, b.Owner, b.Access, b.Deny))
				check(t, x, a, b)
			} else {
				checkErr(t, x.Open(b.H, b.Owner, b.Access, b.Deny), api.ErrHeld)
				check(t, x, a)
			}
			for _, h := range []api.Handle{again, other, {Node: 1, Gen: -1}} { // another file holds nothing
				well(t, x.Open(h, b.Owner, b.Access, b.Deny))
			}
		}
	}
}

// P71: more is asked for by who has an open already: held by what it would have or deny besides, of which nothing is added then.
func TestOpenMoreIsHeld(t *testing.T) {
	a := share.Open{H: file, Owner: 1, Access: api.Read}
	b := share.Open{H: file, Owner: 2, Access: api.Read, Deny: api.Write}
	x := opened(t, a, b)
	for _, c := range []struct{ access, deny int }{{2, 0}, {3, 0}, {1, 1}, {1, 3}, {2, 2}, {3, 3}} {
		checkErr(t, x.Open(file, 1, c.access, c.deny), api.ErrHeld)
		check(t, x, a, b)
	}
	well(t, x.Open(file, 1, 1, 2))
	a.Deny = 2
	check(t, x, a, b)
}

// P71: each of several others can hold, wherever it stands among them; an owner's own open never does.
func TestAnyOtherHolds(t *testing.T) {
	for at := range 5 {
		x := &share.Table{}
		for owner := range 5 {
			deny := 0
			if owner == at {
				deny = api.Write
			}
			well(t, x.Open(file, owner, api.Read, deny))
		}
		for owner := range 7 {
			want := api.ErrHeld
			if owner == at {
				want = nil
			}
			checkErr(t, x.Open(file, owner, api.Write, 0), want)
			well(t, x.Open(file, owner, api.Read, 0))
			if owner == at {
				well(t, x.Down(file, owner, api.Read, api.Write))
			}
		}
	}
}

// P71: access and deny out of their bounds: ErrBound, ahead of ErrHeld and ErrFull; P3: nothing changes.
func TestOpenBounds(t *testing.T) {
	for _, x := range []*share.Table{{}, opened(t, share.Open{H: file, Owner: 1, Access: 3, Deny: 3}), full(t)} {
		was := x.List()
		for _, owner := range []int{1, 99} {
			checkErr(t, x.Open(file, owner, 0, 0), api.ErrBound)
			for _, n := range wrong {
				checkErr(t, x.Open(file, owner, n, 0), api.ErrBound)
				checkErr(t, x.Open(file, owner, 1, n), api.ErrBound)
				checkErr(t, x.Open(file, owner, n, n), api.ErrBound)
			}
			check(t, x, was...)
		}
	}
}

// P71: MaxOpens in all, of whatever nodes and owners; who has one already can have more of it; ErrHeld is told ahead of ErrFull.
func TestOpenFull(t *testing.T) {
	x := &share.Table{}
	for i := range api.MaxOpens {
		well(t, x.Open(api.Handle{Node: i % 8, Gen: i % 3}, i, api.Read, 0))
	}
	was := x.List()
	if len(was) != api.MaxOpens {
		t.Fatalf("%d opens", len(was))
	}
	for _, h := range []api.Handle{{}, {Node: 99}} {
		checkErr(t, x.Open(h, 99, api.Read, 0), api.ErrFull)
		check(t, x, was...)
	}
	well(t, x.Open(api.Handle{Node: 3}, 3, api.Write, api.Write))
	checkErr(t, x.Open(api.Handle{Node: 3}, 99, api.Write, 0), api.ErrHeld)
	checkErr(t, x.Open(api.Handle{Node: 3}, 99, api.Read, 0), api.ErrFull)
	if n := len(x.List()); n != api.MaxOpens {
		t.Errorf("%d opens", n)
	}
}

// P71, P72: Close and Drop make room, Down does not.
func TestRoomAgain(t *testing.T) {
	x := full(t)
	well(t, x.Down(file, 5, api.Read, 0))
	checkErr(t, x.Open(other, 99, 1, 0), api.ErrFull)
	well(t, x.Close(file, 5))
	well(t, x.Open(other, 99, 1, 0))
	checkErr(t, x.Open(other, 98, 1, 0), api.ErrFull)
	if n := x.Drop(99); n != 1 {
		t.Errorf("%d opens", n)
	}
	well(t, x.Open(other, 98, 1, 0))
	checkErr(t, x.Open(other, 97, 1, 0), api.ErrFull)
}

// P71: an open becomes what was said, if it had all of that; else ErrShape; P3: nothing changes then.
func TestDown(t *testing.T) {
	for had := range 12 {
		for less := range 12 {
			o := share.Open{H: file, Owner: 1, Access: had/4 + 1, Deny: had % 4}
			x := opened(t, o)
			access, deny := less/4+1, less%4
			if isPart(access, o.Access) && isPart(deny, o.Deny) {
				well(t, x.Down(file, 1, access, deny))
				check(t, x, share.Open{H: file, Owner: 1, Access: access, Deny: deny})
			} else {
				checkErr(t, x.Down(file, 1, access, deny), api.ErrShape)
				check(t, x, o)
			}
		}
	}
}

// P71: what was given up is gone: it is ErrShape to take it up by Down, and nobody is held by it any more.
func TestDownGivesUp(t *testing.T) {
	x := opened(t, share.Open{H: file, Owner: 1, Access: 3, Deny: 3})
	checkErr(t, x.Open(file, 2, 2, 1), api.ErrHeld)
	well(t, x.Down(file, 1, 2, 1))
	checkErr(t, x.Down(file, 1, 3, 1), api.ErrShape)
	checkErr(t, x.Down(file, 1, 2, 3), api.ErrShape)
	well(t, x.Down(file, 1, 2, 1))
	well(t, x.Open(file, 2, 2, 1))
	checkErr(t, x.May(file, 1, 1), api.ErrNone)
	check(t, x, share.Open{H: file, Owner: 1, Access: 2, Deny: 1}, share.Open{H: file, Owner: 2, Access: 2, Deny: 1})
}

// P71: ErrNone ahead of ErrBound, ErrBound ahead of ErrShape.
func TestDownErrors(t *testing.T) {
	o := share.Open{H: file, Owner: 1, Access: 1}
	x := opened(t, o)
	for _, n := range append([]int{0}, wrong...) {
		checkErr(t, x.Down(file, 2, n, n), api.ErrNone)
		checkErr(t, x.Down(again, 1, n, n), api.ErrNone)
		checkErr(t, x.Down(other, 1, n, n), api.ErrNone)
		checkErr(t, x.Down(file, 1, n, 0), api.ErrBound)
		checkErr(t, x.Down(file, 1, n, 3), api.ErrBound)
	}
	for _, n := range wrong {
		checkErr(t, x.Down(file, 1, 1, n), api.ErrBound)
		checkErr(t, x.Down(file, 1, 3, n), api.ErrBound)
	}
	check(t, x, o)
}

// P71: what is closed is gone, once, and that one alone.
func TestClose(t *testing.T) {
	a := share.Open{H: file, Owner: 1, Access: 3, Deny: 2}
	b := share.Open{H: again, Owner: 1, Access: 3, Deny: 2}
	c := share.Open{H: again, Owner: 2, Access: 1}
	x := &share.Table{}
	well(t, x.Open(b.H, b.Owner, b.Access, 0))
	well(t, x.Open(c.H, c.Owner, c.Access, c.Deny))
	well(t, x.Open(b.H, b.Owner, b.Access, b.Deny))
	well(t, x.Open(a.H, a.Owner, a.Access, a.Deny))
	for _, h := range []api.Handle{other, {Node: 1, Gen: 2}, {Node: -1}, {Node: math.MaxInt}} {
		checkErr(t, x.Close(h, 1), api.ErrNone)
	}
	checkErr(t, x.Close(file, 2), api.ErrNone)
	check(t, x, a, b, c)
	well(t, x.Close(again, 1))
	check(t, x, a, c)
	checkErr(t, x.Close(again, 1), api.ErrNone)
	checkErr(t, x.May(again, 1, 1), api.ErrNone)
	well(t, x.Open(again, 2, 2, 3))
	check(t, x, a, share.Open{H: again, Owner: 2, Access: 3, Deny: 3})
	well(t, x.Open(file, 1, 1, 0)) // an open that was closed leaves nothing behind
	well(t, x.Close(file, 1))
	well(t, x.Open(file, 1, 1, 0))
	check(t, x, share.Open{H: file, Owner: 1, Access: 1}, share.Open{H: again, Owner: 2, Access: 3, Deny: 3})
}

// P72: an owner may what its own open of that node has, all of it; others' opens mean nothing here.
func TestMay(t *testing.T) {
	for had := 1; had <= 3; had++ {
		o := share.Open{H: file, Owner: 1, Access: had, Deny: 0}
		p := share.Open{H: file, Owner: 2, Access: 3, Deny: 0}
		q := share.Open{H: other, Owner: 1, Access: 3, Deny: 3}
		x := opened(t, o, p, q)
		for access := 1; access <= 3; access++ {
			want := api.ErrNone
			if isPart(access, had) {
				want = nil
			}
			checkErr(t, x.May(file, 1, access), want)
			checkErr(t, x.May(file, 2, access), nil)
			checkErr(t, x.May(other, 1, access), nil)
			checkErr(t, x.May(file, 3, access), api.ErrNone)
			checkErr(t, x.May(again, 1, access), api.ErrNone)
			checkErr(t, x.May(other, 2, access), api.ErrNone)
		}
		check(t, x, o, p, q)
	}
}

// P72: ErrBound of an access that is none, ahead of there being no open.
func TestMayBounds(t *testing.T) {
	x := opened(t, share.Open{H: file, Owner: 1, Access: 3})
	for _, n := range append([]int{0}, wrong...) {
		checkErr(t, x.May(file, 1, n), api.ErrBound)
		checkErr(t, x.May(file, 2, n), api.ErrBound)
		checkErr(t, x.May(other, 1, n), api.ErrBound)
	}
}

// P72: who has no open is held by what any open of that node denies, not by what it has.
func TestAnyone(t *testing.T) {
	for deny := range 4 {
		o := share.Open{H: file, Owner: 1, Access: 3, Deny: deny}
		p := share.Open{H: again, Owner: 1, Access: 3, Deny: 3}
		x := opened(t, o, p)
		for access := 1; access <= 3; access++ {
			var want error
			if !isPart(access, 3-deny) {
				want = api.ErrHeld
			}
			checkErr(t, x.Anyone(file, access), want)
			checkErr(t, x.Anyone(again, access), api.ErrHeld)
			checkErr(t, x.Anyone(other, access), nil)
		}
		check(t, x, o, p)
	}
}

// P72: each of several opens of a node can hold.
func TestAnyoneOfSeveral(t *testing.T) {
	for at := range 4 {
		x := &share.Table{}
		for owner := range 4 {
			well(t, x.Open(file, owner, api.Read, 0))
		}
		well(t, x.Open(file, at, api.Read, api.Write))
		checkErr(t, x.Anyone(file, api.Read), nil)
		checkErr(t, x.Anyone(file, api.Write), api.ErrHeld)
		checkErr(t, x.Anyone(file, api.Read+api.Write), api.ErrHeld)
		well(t, x.Close(file, at))
		checkErr(t, x.Anyone(file, api.Read+api.Write), nil)
	}
}

// P72: ErrBound of an access that is none, ahead of ErrHeld.
func TestAnyoneBounds(t *testing.T) {
	x := opened(t, share.Open{H: file, Owner: 1, Access: 3, Deny: 3})
	for _, n := range append([]int{0}, wrong...) {
		checkErr(t, x.Anyone(file, n), api.ErrBound)
		checkErr(t, x.Anyone(other, n), api.ErrBound)
	}
}

// P72: all opens of an owner go, of whatever node, and nobody else's.
func TestDrop(t *testing.T) {
	a := share.Open{H: file, Owner: 1, Access: 1}
	b := share.Open{H: file, Owner: 2, Access: 1}
	c := share.Open{H: again, Owner: 1, Access: 3, Deny: 3}
	d := share.Open{H: other, Owner: -1, Access: 2}
	e := share.Open{H: other, Owner: 1, Access: 2}
	x := opened(t, a, b, c, d, e)
	for _, drop := range []struct {
		owner, want int
		left        []share.Open
	}{{0, 0, []share.Open{a, b, c, d, e}}, {1, 3, []share.Open{b, d}}, {1, 0, []share.Open{b, d}}, {-1, 1, []share.Open{b}}, {2, 1, nil}, {2, 0, nil}} {
		if n := x.Drop(drop.owner); n != drop.want {
			t.Errorf("%d opens of %d; want %d", n, drop.owner, drop.want)
		}
		check(t, x, drop.left...)
	}
	well(t, x.Open(again, 2, 3, 3))
}

// P72: rising by Node, Gen, then Owner, in whatever order they came, and whatever numbers they have.
func TestListRises(t *testing.T) {
	ends := []int{math.MinInt, -1, 0, 2, math.MaxInt}
	var want []share.Open
	for _, node := range ends {
		for _, gen := range []int{math.MinInt, 0, math.MaxInt} {
			for _, owner := range []int{math.MinInt, math.MaxInt} {
				want = append(want, share.Open{H: api.Handle{Node: node, Gen: gen}, Owner: owner, Access: 1})
			}
		}
	}
	for _, by := range []int{1, 7, 11, 13, 29} { // none of which has a divisor in common with 30
		x := &share.Table{}
		for i := range want {
			o := want[i*by%len(want)]
			well(t, x.Open(o.H, o.Owner, o.Access, o.Deny))
		}
		check(t, x, want...)
	}
}

// P4: a list is new memory: neither what is written into it, nor what happens later, shows at the other side.
func TestListIsNew(t *testing.T) {
	a := share.Open{H: file, Owner: 1, Access: 1}
	b := share.Open{H: file, Owner: 2, Access: 3}
	x := opened(t, a, b)
	l, m := x.List(), x.List()
	l[0], l[1] = share.Open{}, share.Open{}
	_ = append(l[:1], share.Open{H: other})
	_ = append(l, share.Open{H: other})
	check(t, x, a, b)
	well(t, x.Down(file, 2, 1, 0))
	well(t, x.Open(api.Handle{}, 3, 1, 0))
	well(t, x.Close(file, 1))
	x.Drop(2)
	if !slices.Equal(m, []share.Open{a, b}) {
		t.Errorf("%v", m)
	}
}

// P73: whatever is opened by whoever, what is there goes together; three owners at one file, each way of opening it.
func TestAlwaysTogether(t *testing.T) {
	for i := range 12 * 12 * 12 {
		x := &share.Table{}
		for owner, how := range []int{i % 12, i / 12 % 12, i / 144} {
			x.Open(file, owner, how/4+1, how%4)
			checkTogether(t, x)
		}
	}
}

// P2: tables of their own, worked on side by side, do not see each other.
func TestSideBySide(t *testing.T) {
	var group sync.WaitGroup
	for i := range 8 {
		x := &share.Table{}
		group.Go(func() {
			for n := range api.MaxOpens {
				if err := x.Open(file, n, 1, i%2*2); err != nil {
					t.Error(err)
				}
			}
			for n, o := range x.List() {
				if want := (share.Open{H: file, Owner: n, Access: 1, Deny: i % 2 * 2}); o != want {
					t.Errorf("%v; want %v", o, want)
				}
			}
		})
	}
	group.Wait()
}
