package turn_test

import (
	"errors"
	"math"
	"strconv"
	"strings"
	"sync"
	"testing"

	"pigeonholes/api"
	"pigeonholes/plain"
	"pigeonholes/turn"
)

// What the package exports, as it was given.
var (
	_ func(*turn.Table, int, int) (string, bool, error) = (*turn.Table).Begin
	_ func(*turn.Table, int, int, string) error         = (*turn.Table).End
	_ func(*turn.Table, int) error                      = (*turn.Table).Drop
	_ func(*turn.Table) int                             = (*turn.Table).Count
)

// greatest is the last number ahead of 0.
const greatest = 1<<32 - 1

// Numbers that no request bears.
var wrong = []int{math.MinInt, -greatest - 1, -greatest, -2, -1, greatest + 1, greatest + 2, 2*greatest + 1, math.MaxInt}

// Numbers of owners: any will do.
var anyone = []int{math.MinInt, -1 << 32, -1, 0, 1, 2, 1 << 32, math.MaxInt}

// checkErr: the error itself, without a place.
func checkErr(t *testing.T, err, want error) {
	t.Helper()
	var fault *api.Fault
	if err != want || errors.As(err, &fault) {
		t.Fatalf("%v; want %v", err, want)
	}
	if _, at := plain.Code(err); err != nil && at != -1 {
		t.Errorf("%v at %d", err, at)
	}
}

// begins: it may be done, and was not yet.
func begins(t *testing.T, x *turn.Table, owner, seq int) {
	t.Helper()
	reply, again, err := x.Begin(owner, seq)
	checkErr(t, err, nil)
	if reply != "" || again {
		t.Fatalf("%d of %d: %q, %t", seq, owner, reply, again)
	}
}

// repeats: it was done, and was answered this; and it is not done once more.
func repeats(t *testing.T, x *turn.Table, owner, seq int, want string) {
	t.Helper()
	for range 2 {
		reply, again, err := x.Begin(owner, seq)
		checkErr(t, err, nil)
		if reply != want || !again {
			t.Fatalf("%d of %d: %q, %t; want %q", seq, owner, reply, again, want)
		}
		for _, reply := range []string{want, want + "!", ""} {
			checkErr(t, x.End(owner, seq, reply), api.ErrSeq)
		}
	}
}

// refused: by Begin and End, and no other result; whatever it would be answered.
func refused(t *testing.T, x *turn.Table, owner, seq int, want error) {
	t.Helper()
	n := x.Count()
	reply, again, err := x.Begin(owner, seq)
	checkErr(t, err, want)
	if reply != "" || again {
		t.Fatalf("%d of %d: %q, %t", seq, owner, reply, again)
	}
	for _, reply := range []string{"", "?", strings.Repeat("x", 5000)} {
		checkErr(t, x.End(owner, seq, reply), want)
	}
	count(t, x, n)
}

// ends a request: it must go well.
func ends(t *testing.T, x *turn.Table, owner, seq int, reply string) {
	t.Helper()
	checkErr(t, x.End(owner, seq, reply), nil)
	repeats(t, x, owner, seq, reply)
}

// count of owners.
func count(t *testing.T, x *turn.Table, want int) {
	t.Helper()
	if n := x.Count(); n != want {
		t.Fatalf("%d owners; want %d", n, want)
	}
}

// full makes a table of as many owners as can be, from 0 on; each one's last has its own number.
func full(t *testing.T) *turn.Table {
	t.Helper()
	x := &turn.Table{}
	for i := range api.MaxOwners {
		ends(t, x, i, i, nth(i))
		count(t, x, i+1)
	}
	return x
}

// nth makes replies that are unlike.
func nth(i int) string { return "r" + strconv.Itoa(i) }

// P100: a zero value knows nobody; also one that is no pointer, or a field.
func TestZero(t *testing.T) {
	var x turn.Table
	both := struct{ a, b turn.Table }{}
	for _, owner := range anyone {
		for _, y := range []*turn.Table{&x, new(turn.Table), &both.a} {
			checkErr(t, y.Drop(owner), api.ErrNone)
			begins(t, y, owner, 7)
			checkErr(t, y.Drop(owner), api.ErrNone)
			count(t, y, 0)
		}
	}
	ends(t, &x, 1, 7, "a")
	ends(t, &both.a, 1, 8, "b")
	checkErr(t, both.b.Drop(1), api.ErrNone)
	count(t, &both.b, 0)
}

// P100: of an owner's first one any number will do, from 0 to the greatest; whoever it is.
func TestFirst(t *testing.T) {
	for _, seq := range []int{0, 1, 2, 77, 1<<16 - 1, 1<<31 - 1, 1 << 31, greatest - 1, greatest} {
		x := &turn.Table{}
		for i, owner := range anyone {
			begins(t, x, owner, seq)
			ends(t, x, owner, seq, nth(i))
			count(t, x, i+1)
		}
		for i, owner := range anyone {
			repeats(t, x, owner, seq, nth(i))
		}
	}
}

// P100: to begin keeps nothing: nobody is known by it, and another number may come first all the same.
func TestBeginKeepsNothing(t *testing.T) {
	x := &turn.Table{}
	for i := range 3 * api.MaxOwners {
		begins(t, x, i, 5)
		begins(t, x, i, 5)
		begins(t, x, i, 100)
		begins(t, x, i, 0)
		count(t, x, 0)
		checkErr(t, x.Drop(i), api.ErrNone)
	}
	ends(t, x, 1, 5, "a")
	begins(t, x, 1, 6)
	repeats(t, x, 1, 5, "a") // it is still the last one
	begins(t, x, 1, 6)
	refused(t, x, 1, 7, api.ErrSeq)
	count(t, x, 1)
}

// P100: then the last one's number is told again, the next one goes, another one is ErrSeq; behind the greatest comes 0.
func TestThen(t *testing.T) {
	for _, c := range []struct {
		last, next int
		others     []int
	}{
		{0, 1, []int{2, 3, greatest, greatest - 1, 1 << 31}},
		{1, 2, []int{0, 3, 4, greatest}},
		{7, 8, []int{0, 1, 5, 6, 9, 10, 7 + 1<<16, 7 + 1<<31, greatest}},
		{1<<31 - 1, 1 << 31, []int{0, 1<<31 - 2, 1<<31 + 1, greatest}},
		{greatest - 1, greatest, []int{0, 1, greatest - 2, greatest - 3}},
		{greatest, 0, []int{1, 2, greatest - 1, 1 << 31}},
	} {
		x := &turn.Table{}
		ends(t, x, 1, c.last, "a")
		for _, seq := range c.others {
			refused(t, x, 1, seq, api.ErrSeq)
		}
		begins(t, x, 1, c.next)
		repeats(t, x, 1, c.last, "a")
		ends(t, x, 1, c.next, "b")
		refused(t, x, 1, c.last, api.ErrSeq) // it is not the last one any more
		count(t, x, 1)
	}
}

// P100: numbers go on around the greatest, and only the last one is told again.
func TestAround(t *testing.T) {
	x := &turn.Table{}
	l := []int{greatest - 2, greatest - 1, greatest, 0, 1, 2, 3}
	for i, seq := range l {
		begins(t, x, 9, seq)
		ends(t, x, 9, seq, nth(i))
		for j, other := range l {
			switch j {
			case i:
				repeats(t, x, 9, other, nth(i))
			case i + 1:
				begins(t, x, 9, other)
			default:
				refused(t, x, 9, other, api.ErrSeq)
			}
		}
	}
}

// P100, P101: ErrBound of what is no number, ahead of all else: of one who is known, of another one, and where no more are; it takes nobody's turn.
func TestBounds(t *testing.T) {
	few := &turn.Table{}
	ends(t, few, 0, 0, "a")
	ends(t, few, 1, greatest, "b")
	ends(t, few, 2, 1, "c")
	for _, x := range []*turn.Table{{}, few, full(t)} {
		for _, seq := range wrong {
			for _, owner := range anyone {
				refused(t, x, owner, seq, api.ErrBound)
			}
			refused(t, x, 1000, seq, api.ErrBound)
		}
	}
	repeats(t, few, 0, 0, "a")
	repeats(t, few, 1, greatest, "b")
	repeats(t, few, 2, 1, "c")
	begins(t, few, 0, 1)
	begins(t, few, 1, 0)
	begins(t, few, 2, 2)
}

// P100, P101: ErrFull of one owner more; those who are known go on, and whoever is dropped makes room for one.
func TestFull(t *testing.T) {
	x := full(t)
	for _, owner := range []int{math.MinInt, -1, api.MaxOwners, api.MaxOwners + 1, math.MaxInt} {
		for _, seq := range []int{0, 1, 29, 30, greatest} {
			refused(t, x, owner, seq, api.ErrFull)
		}
	}
	for i := range api.MaxOwners {
		repeats(t, x, i, i, nth(i))
		refused(t, x, i, i+2, api.ErrSeq)
		ends(t, x, i, i+1, nth(i+1))
		count(t, x, api.MaxOwners)
	}
	for i := range api.MaxOwners {
		checkErr(t, x.Drop(i), nil)
		count(t, x, api.MaxOwners-1)
		begins(t, x, i, 7)
		begins(t, x, 100+i, 7)
		ends(t, x, 100+i, 7, "z")
		count(t, x, api.MaxOwners)
		refused(t, x, i, i+1, api.ErrFull) // also what was its last one, and its next one
		refused(t, x, i, i+2, api.ErrFull)
	}
}

// P101: a request ends without having begun, as it would begin; and once only.
func TestEnd(t *testing.T) {
	x := &turn.Table{}
	checkErr(t, x.End(1, 41, "a"), nil)
	for range 3 {
		checkErr(t, x.End(1, 41, "b"), api.ErrSeq)
		checkErr(t, x.End(1, 41, "a"), api.ErrSeq) // also by the same reply
		checkErr(t, x.End(1, 40, "b"), api.ErrSeq)
		checkErr(t, x.End(1, 43, "b"), api.ErrSeq)
	}
	repeats(t, x, 1, 41, "a")
	checkErr(t, x.End(1, 42, "c"), nil)
	repeats(t, x, 1, 42, "c")
	count(t, x, 1)
}

// P101: a reply is any text, and is told as it was; also no text at all.
func TestReplies(t *testing.T) {
	x := &turn.Table{}
	for i, reply := range []string{"", "a", "", "\x00", "\xff\xfe", "ä\n", strings.Repeat("x", api.MaxText), strings.Repeat("y", 1<<20), ""} {
		begins(t, x, 1, i)
		ends(t, x, 1, i, reply)
	}
	count(t, x, 1)
}

// P100, P101: each owner has its own turns, whatever the others do.
func TestOwnersAreUnlike(t *testing.T) {
	x := &turn.Table{}
	ends(t, x, 1, 10, "a")
	ends(t, x, 2, 11, "b")
	ends(t, x, -1, 12, "c")
	begins(t, x, 3, 500)
	ends(t, x, 1, 11, "d")
	repeats(t, x, 2, 11, "b")
	refused(t, x, 2, 10, api.ErrSeq)
	repeats(t, x, -1, 12, "c")
	refused(t, x, 1, 13, api.ErrSeq)
	checkErr(t, x.Drop(2), nil)
	repeats(t, x, 1, 11, "d")
	repeats(t, x, -1, 12, "c")
	begins(t, x, 2, 99)
	count(t, x, 2)
}

// P101: who is dropped is not known any more: ErrNone, and any number will do once more, also the last one's, which is not told again.
func TestDrop(t *testing.T) {
	for _, seq := range []int{0, 3, 4, 5, greatest} {
		x := &turn.Table{}
		ends(t, x, 1, 4, "a")
		ends(t, x, 2, 4, "b")
		checkErr(t, x.Drop(1), nil)
		count(t, x, 1)
		checkErr(t, x.Drop(1), api.ErrNone)
		count(t, x, 1)
		begins(t, x, 1, seq)
		checkErr(t, x.Drop(1), api.ErrNone)
		ends(t, x, 1, seq, "c")
		count(t, x, 2)
		repeats(t, x, 2, 4, "b")
	}
}

// P101: ErrNone of nobody, and everybody stays.
func TestDropNobody(t *testing.T) {
	x := full(t)
	for _, owner := range []int{math.MinInt, -1, api.MaxOwners, 1 << 32, math.MaxInt} {
		checkErr(t, x.Drop(owner), api.ErrNone)
		count(t, x, api.MaxOwners)
	}
	for i := range api.MaxOwners {
		repeats(t, x, i, i, nth(i))
		checkErr(t, x.Drop(i), nil)
		count(t, x, api.MaxOwners-1-i)
	}
	for i := range api.MaxOwners {
		checkErr(t, x.Drop(i), api.ErrNone)
		begins(t, x, i, 3*i)
	}
	count(t, x, 0)
}

// P102: what was answered is told again, the same, however often, whatever is asked and refused between.
func TestAnsweredAgain(t *testing.T) {
	x := full(t)
	for range 5 {
		for i := range api.MaxOwners {
			repeats(t, x, i, i, nth(i))
			refused(t, x, i, i+2, api.ErrSeq)
			refused(t, x, i, -1, api.ErrBound)
			refused(t, x, 1000+i, i, api.ErrFull)
			begins(t, x, i, i+1)
			checkErr(t, x.Drop(1000+i), api.ErrNone)
		}
	}
	ends(t, x, 3, 4, "z")
	for i := range api.MaxOwners {
		if i != 3 {
			repeats(t, x, i, i, nth(i))
		}
	}
	repeats(t, x, 3, 4, "z")
}

// P2: tables of their own, worked on side by side, do not see each other.
func TestSideBySide(t *testing.T) {
	var group sync.WaitGroup
	for i := range 8 {
		x := &turn.Table{}
		group.Go(func() {
			for n := range 1000 {
				owner, seq := n%10, (greatest-40+i+n/10)%(greatest+1)
				if _, again, err := x.Begin(owner, seq); again || err != nil {
					t.Errorf("%d of %d: %t, %v", seq, owner, again, err)
				}
				if err := x.End(owner, seq, nth(n+i)); err != nil {
					t.Errorf("%d of %d: %v", seq, owner, err)
				}
				if reply, again, err := x.Begin(owner, seq); reply != nth(n+i) || !again || err != nil {
					t.Errorf("%d of %d: %q, %t, %v", seq, owner, reply, again, err)
				}
			}
			if x.Count() != 10 {
				t.Errorf("%d owners", x.Count())
			}
		})
	}
	group.Wait()
}
