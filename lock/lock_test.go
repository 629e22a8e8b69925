package lock_test

import (
	"errors"
	"math"
	"slices"
	"sync"
	"testing"

	"pigeonholes/api"
	"pigeonholes/lock"
	"pigeonholes/plain"
)

// What the package exports, as it was given.
var (
	_ func(*lock.Table, api.Handle, int, api.Range, bool) (lock.Lock, error) = (*lock.Table).Test
	_ func(*lock.Table, api.Handle, int, api.Range, bool) (lock.Lock, error) = (*lock.Table).Lock
	_ func(*lock.Table, api.Handle, int, api.Range) error                    = (*lock.Table).Unlock
	_ func(*lock.Table, api.Handle, int) int                                 = (*lock.Table).Drop
	_ func(*lock.Table) []lock.Lock                                          = (*lock.Table).List
	_                                                                        = struct {
		H     api.Handle
		Owner int
		R     api.Range
		Write bool
	}(lock.Lock{})
)

// Files that are locked here: two of one number, and another one.
var (
	file  = api.Handle{Node: 1}
	again = api.Handle{Node: 1, Gen: 1}
	other = api.Handle{Node: 2}
)

// far is the greatest place, and the greatest size.
const far = 1 << 40

// Ranges that are none.
var wrong = []api.Range{
	{At: -1}, {At: -1, Size: 1}, {At: -1, Size: 5}, {At: far + 1}, {At: far + 1, Size: 1}, {At: math.MinInt}, {At: math.MaxInt, Size: 1},
	{Size: -1}, {At: 5, Size: -1}, {At: 5, Size: -5}, {Size: far + 1}, {At: far, Size: far + 1}, {Size: math.MinInt}, {Size: math.MaxInt}, {At: 1, Size: math.MaxInt},
	{At: -1, Size: -1}, {At: math.MaxInt, Size: math.MaxInt}, {At: math.MinInt, Size: math.MinInt}, {At: far + 1, Size: far + 1},
}

// Numbers that an owner can have, as any other.
var owners = []int{math.MinInt, -1, 0, 1, 2, 1 << 32, math.MaxInt}

// reading and writing make runs of the file.
func reading(owner, at, size int) lock.Lock {
	return lock.Lock{H: file, Owner: owner, R: api.Range{At: at, Size: size}}
}

func writing(owner, at, size int) lock.Lock {
	return lock.Lock{H: file, Owner: owner, R: api.Range{At: at, Size: size}, Write: true}
}

// take a lock: it must go well, and answer nothing else.
func take(t *testing.T, x *lock.Table, l ...lock.Lock) {
	t.Helper()
	for _, wanted := range l {
		if held, err := x.Lock(wanted.H, wanted.Owner, wanted.R, wanted.Write); err != nil || held != (lock.Lock{}) {
			t.Fatalf("%v: %v, %v", wanted, held, err)
		}
	}
}

// locked makes a table.
func locked(t *testing.T, l ...lock.Lock) *lock.Table {
	t.Helper()
	x := &lock.Table{}
	take(t, x, l...)
	return x
}

// check what is held.
func check(t *testing.T, x *lock.Table, want ...lock.Lock) {
	t.Helper()
	if l := x.List(); !slices.Equal(l, want) {
		t.Fatalf("%v; want %v", l, want)
	}
}

// checkErr: the error itself, without a place.
func checkErr(t *testing.T, err, want error) {
	t.Helper()
	var fault *api.Fault
	if err != want || errors.As(err, &fault) {
		t.Fatalf("%v; want %v", err, want)
	}
	if _, at := plain.Code(err); err != nil && at != -1 {
		t.Errorf("%v at %d", err, at)
	}
}

// refused: by Lock, and nothing has changed.
func refused(t *testing.T, x *lock.Table, wanted, by lock.Lock, want error) {
	t.Helper()
	was := x.List()
	held, err := x.Lock(wanted.H, wanted.Owner, wanted.R, wanted.Write)
	checkErr(t, err, want)
	if held != by {
		t.Fatalf("%v is held by %v; want %v", wanted, held, by)
	}
	check(t, x, was...)
}

// tested: by Test, and nothing has changed.
func tested(t *testing.T, x *lock.Table, wanted, by lock.Lock, want error) {
	t.Helper()
	was := x.List()
	held, err := x.Test(wanted.H, wanted.Owner, wanted.R, wanted.Write)
	checkErr(t, err, want)
	if held != by {
		t.Fatalf("%v would be held by %v; want %v", wanted, held, by)
	}
	check(t, x, was...)
}

// held: by Lock and by Test.
func held(t *testing.T, x *lock.Table, wanted, by lock.Lock) {
	t.Helper()
	tested(t, x, wanted, by, api.ErrHeld)
	refused(t, x, wanted, by, api.ErrHeld)
}

// unlock what is spelled as a run, of whatever kind.
func unlock(x *lock.Table, l lock.Lock) error { return x.Unlock(l.H, l.Owner, l.R) }

// full makes a table with as many runs as can be: bytes 0, 2, 4 and so on of one file, which an owner reads.
func full(t *testing.T, owner int) *lock.Table {
	t.Helper()
	x := &lock.Table{}
	for i := range api.MaxLocks {
		take(t, x, reading(owner, 2*i, 1))
	}
	return x
}

// P80: the zero value holds none.
func TestZero(t *testing.T) {
	var x lock.Table
	check(t, &x)
	for _, h := range []api.Handle{{}, file, {Node: -1, Gen: -1}, {Node: math.MaxInt, Gen: math.MinInt}} {
		for _, owner := range owners {
			for _, write := range []bool{false, true} {
				tested(t, &x, lock.Lock{H: h, Owner: owner, Write: write}, lock.Lock{}, nil)
			}
			checkErr(t, x.Unlock(h, owner, api.Range{}), nil)
			if n := x.Drop(h, owner); n != 0 {
				t.Errorf("%d runs of %d", n, owner)
			}
		}
	}
	check(t, &x)
}

// P80, P81: a range that is locked is one run, of any node and any owner, up to the edges of what is a range.
func TestLockNew(t *testing.T) {
	for _, r := range []api.Range{{}, {Size: 1}, {At: 1}, {At: 7, Size: 3}, {Size: far}, {At: far}, {At: far, Size: 1}, {At: far, Size: far}, {At: far - 1, Size: far - 1}} {
		for _, h := range []api.Handle{{}, file, again, {Node: -1, Gen: -2}, {Node: math.MaxInt, Gen: math.MinInt}} {
			for _, owner := range owners {
				for _, write := range []bool{false, true} {
					l := lock.Lock{H: h, Owner: owner, R: r, Write: write}
					x := locked(t, l)
					check(t, x, l)
					take(t, x, l) // once more is no more
					check(t, x, l)
					checkErr(t, unlock(x, l), nil)
					check(t, x)
				}
			}
		}
	}
}

// P80, P81: what is no range is ErrBound, ahead of ErrHeld and ErrFull, and nothing else is answered.
func TestBounds(t *testing.T) {
	for _, x := range []*lock.Table{{}, locked(t, writing(1, 0, 0)), full(t, 1)} {
		for _, r := range wrong {
			for _, owner := range []int{1, 2} {
				for _, write := range []bool{false, true} {
					wanted := lock.Lock{H: file, Owner: owner, R: r, Write: write}
					refused(t, x, wanted, lock.Lock{}, api.ErrBound)
					tested(t, x, wanted, lock.Lock{}, api.ErrBound)
				}
				was := x.List()
				checkErr(t, x.Unlock(file, owner, r), api.ErrBound)
				check(t, x, was...)
			}
		}
	}
}

// P80: runs are as long as can be, whichever side grows, by whatever comes between, and however far.
func TestRunsGrowTogether(t *testing.T) {
	for _, c := range []struct {
		take []lock.Lock
		want []lock.Lock
	}{
		{[]lock.Lock{reading(1, 0, 3), reading(1, 3, 2)}, []lock.Lock{reading(1, 0, 5)}},
		{[]lock.Lock{reading(1, 3, 2), reading(1, 0, 3)}, []lock.Lock{reading(1, 0, 5)}},
		{[]lock.Lock{writing(1, 0, 3), writing(1, 2, 4)}, []lock.Lock{writing(1, 0, 6)}},
		{[]lock.Lock{writing(1, 2, 4), writing(1, 0, 3)}, []lock.Lock{writing(1, 0, 6)}},
		{[]lock.Lock{reading(1, 0, 9), reading(1, 2, 4)}, []lock.Lock{reading(1, 0, 9)}},
		{[]lock.Lock{reading(1, 2, 4), reading(1, 0, 9)}, []lock.Lock{reading(1, 0, 9)}},
		{[]lock.Lock{reading(1, 0, 1), reading(1, 2, 1)}, []lock.Lock{reading(1, 0, 1), reading(1, 2, 1)}},
		{[]lock.Lock{reading(1, 0, 1), reading(1, 2, 1), reading(1, 1, 1)}, []lock.Lock{reading(1, 0, 3)}},
		{[]lock.Lock{reading(1, 0, 1), reading(1, 2, 1), reading(1, 4, 1), reading(1, 1, 3)}, []lock.Lock{reading(1, 0, 5)}},
		{[]lock.Lock{reading(1, 0, 1), reading(1, 2, 1), reading(1, 4, 1), reading(1, 6, 1), reading(1, 2, 3)}, []lock.Lock{reading(1, 0, 1), reading(1, 2, 3), reading(1, 6, 1)}},
		{[]lock.Lock{reading(1, 5, 0), reading(1, 3, 2)}, []lock.Lock{reading(1, 3, 0)}},
		{[]lock.Lock{reading(1, 3, 2), reading(1, 5, 0)}, []lock.Lock{reading(1, 3, 0)}},
		{[]lock.Lock{reading(1, 3, 2), reading(1, 0, 0)}, []lock.Lock{reading(1, 0, 0)}},
		{[]lock.Lock{reading(1, 0, 0), reading(1, 3, 2)}, []lock.Lock{reading(1, 0, 0)}},
		{[]lock.Lock{reading(1, 0, far), reading(1, far, far)}, []lock.Lock{reading(1, 0, 2*far)}},
		{[]lock.Lock{reading(1, far, far), reading(1, far, 0)}, []lock.Lock{reading(1, far, 0)}},
		{[]lock.Lock{reading(1, 0, far), reading(1, far, far), reading(1, far, 0)}, []lock.Lock{reading(1, 0, 0)}},
		{[]lock.Lock{reading(1, 0, 3), reading(2, 3, 2)}, []lock.Lock{reading(1, 0, 3), reading(2, 3, 2)}},
		{[]lock.Lock{reading(1, 0, 3), writing(1, 3, 2)}, []lock.Lock{reading(1, 0, 3), writing(1, 3, 2)}},
		{[]lock.Lock{writing(1, 0, 3), reading(1, 3, 2)}, []lock.Lock{writing(1, 0, 3), reading(1, 3, 2)}},
	} {
		check(t, locked(t, c.take...), c.want...)
	}
}

// P81: of the same owner the bytes become of that kind, whatever they were; the rest stays.
func TestLockOver(t *testing.T) {
	for _, c := range []struct {
		take []lock.Lock
		want []lock.Lock
	}{
		{[]lock.Lock{reading(1, 0, 10), writing(1, 3, 3)}, []lock.Lock{reading(1, 0, 3), writing(1, 3, 3), reading(1, 6, 4)}},
		{[]lock.Lock{reading(1, 0, 10), writing(1, 3, 3), reading(1, 3, 3)}, []lock.Lock{reading(1, 0, 10)}},
		{[]lock.Lock{reading(1, 0, 10), writing(1, 3, 3), reading(1, 4, 1)}, []lock.Lock{reading(1, 0, 3), writing(1, 3, 1), reading(1, 4, 1), writing(1, 5, 1), reading(1, 6, 4)}},
		{[]lock.Lock{writing(1, 0, 10), reading(1, 0, 10)}, []lock.Lock{reading(1, 0, 10)}},
		{[]lock.Lock{writing(1, 0, 10), reading(1, 0, 4)}, []lock.Lock{reading(1, 0, 4), writing(1, 4, 6)}},
		{[]lock.Lock{writing(1, 0, 10), reading(1, 4, 6)}, []lock.Lock{writing(1, 0, 4), reading(1, 4, 6)}},
		{[]lock.Lock{writing(1, 2, 5), reading(1, 0, 4)}, []lock.Lock{reading(1, 0, 4), writing(1, 4, 3)}},
		{[]lock.Lock{writing(1, 2, 5), reading(1, 4, 0)}, []lock.Lock{writing(1, 2, 2), reading(1, 4, 0)}},
		{[]lock.Lock{writing(1, 2, 5), reading(1, 0, 0)}, []lock.Lock{reading(1, 0, 0)}},
		{[]lock.Lock{writing(1, 0, 0), reading(1, 2, 5)}, []lock.Lock{writing(1, 0, 2), reading(1, 2, 5), writing(1, 7, 0)}},
		{[]lock.Lock{writing(1, 0, 0), reading(1, far, far)}, []lock.Lock{writing(1, 0, far), reading(1, far, far), writing(1, 2*far, 0)}},
		{[]lock.Lock{writing(1, 0, 2), reading(1, 2, 2), writing(1, 4, 2), reading(1, 1, 4)}, []lock.Lock{writing(1, 0, 1), reading(1, 1, 4), writing(1, 5, 1)}},
		{[]lock.Lock{writing(1, 0, 2), reading(1, 2, 2), writing(1, 4, 2), writing(1, 2, 2)}, []lock.Lock{writing(1, 0, 6)}},
	} {
		check(t, locked(t, c.take...), c.want...)
	}
}

// P81: another owner's run holds where a byte is of both, and one of both is write; each range of a few bytes against each.
func TestLockBesideAnother(t *testing.T) {
	for i := range 7 * 7 * 7 * 7 {
		a, b := api.Range{At: i % 7, Size: i / 7 % 7}, api.Range{At: i / 49 % 7, Size: i / 343}
		common := false
		for at := range 20 { // a range without end goes on behind them all
			common = common || isIn(at, a) && isIn(at, b)
		}
		for kinds := range 4 {
			first := lock.Lock{H: file, Owner: 1, R: a, Write: kinds%2 == 1}
			second := lock.Lock{H: file, Owner: 2, R: b, Write: kinds/2 == 1}
			x := locked(t, first)
			if common && kinds > 0 {
				held(t, x, second, first)
			} else {
				tested(t, x, second, lock.Lock{}, nil)
				take(t, x, second)
				want := []lock.Lock{first, second}
				if b.At < a.At {
					want = []lock.Lock{second, first}
				}
				check(t, x, want...)
			}
		}
	}
}

func isIn(at int, r api.Range) bool { return at >= r.At && (r.Size == 0 || at < r.At+r.Size) }

// P81: another node, and another time of a number, hold nothing.
func TestLockElsewhere(t *testing.T) {
	a := writing(1, 0, 0)
	b := lock.Lock{H: again, Owner: 2, Write: true}
	c := lock.Lock{H: other, Owner: 2, Write: true}
	check(t, locked(t, c, b, a), a, b, c)
	d := lock.Lock{H: again, Owner: 1, R: api.Range{At: 3, Size: 2}}
	e := lock.Lock{H: file, Owner: 1, R: api.Range{At: 5, Size: 2}}
	check(t, locked(t, d, e), e, d) // and no run goes on there
}

// P81: at the far end: what has an end lets those pass who come behind it; what has none does not.
func TestHeldFar(t *testing.T) {
	x := locked(t, writing(1, far, far))
	held(t, x, reading(2, far, 0), writing(1, far, far))
	held(t, x, reading(2, far, 1), writing(1, far, far))
	tested(t, x, reading(2, 0, far), lock.Lock{}, nil)
	held(t, x, reading(2, 1, far), writing(1, far, far))
	take(t, x, writing(1, far, 0))
	checkErr(t, x.Unlock(file, 1, api.Range{At: far, Size: far}), nil)
	check(t, x, writing(1, 2*far, 0))
	tested(t, x, reading(2, far, far), lock.Lock{}, nil)
	held(t, x, reading(2, far, 0), writing(1, 2*far, 0))
	held(t, x, reading(2, 0, 0), writing(1, 2*far, 0))
}

// P81: of several that hold, the one whose run begins first, whole, also where it begins ahead of the range; of such, the least owner.
func TestWhoHolds(t *testing.T) {
	x := locked(t, reading(5, 2, 6), reading(4, 3, 1), reading(3, 3, 9), reading(-7, 4, 0), writing(9, 0, 1))
	held(t, x, writing(1, 0, 0), writing(9, 0, 1))
	held(t, x, writing(1, 1, 0), reading(5, 2, 6))
	held(t, x, writing(1, 7, 1), reading(5, 2, 6))
	held(t, x, writing(1, 8, 1), reading(3, 3, 9))
	held(t, x, writing(1, 12, 1), reading(-7, 4, 0))
	held(t, x, writing(5, 0, 0), writing(9, 0, 1))
	held(t, x, writing(5, 1, 0), reading(3, 3, 9)) // an owner's own never holds
	held(t, x, writing(3, 3, 0), reading(5, 2, 6))
	held(t, x, reading(1, 0, 0), writing(9, 0, 1))
	tested(t, x, reading(1, 1, 0), lock.Lock{}, nil)
	tested(t, x, reading(9, 0, 0), lock.Lock{}, nil)
	checkErr(t, x.Unlock(file, 5, api.Range{}), nil)
	held(t, x, writing(1, 1, 0), reading(3, 3, 9))
	for _, owner := range []int{math.MinInt, math.MaxInt, 0} {
		take(t, x, reading(owner, 3, 2))
	}
	held(t, x, writing(1, 1, 0), reading(math.MinInt, 3, 2))
}

// P81: reading does not hold reading: a writer further on is told, of the same owner too.
func TestReadersDoNotHold(t *testing.T) {
	x := locked(t, reading(1, 0, 10), writing(1, 3, 3), reading(2, 0, 3))
	held(t, x, reading(3, 0, 0), writing(1, 3, 3))
	held(t, x, writing(3, 0, 0), reading(1, 0, 3))
	held(t, x, writing(1, 0, 1), reading(2, 0, 3))
	tested(t, x, reading(3, 6, 0), lock.Lock{}, nil)
}

// P81: what an owner has of a range is forgotten, and what it has beside it stays, and all of others.
func TestUnlock(t *testing.T) {
	for _, c := range []struct {
		unlock lock.Lock
		want   []lock.Lock
	}{
		{reading(1, 0, 0), nil},
		{reading(1, 2, 0), nil},
		{reading(1, 2, 3), []lock.Lock{writing(1, 5, 3), reading(1, 8, 2), reading(1, 20, 0)}},
		{reading(1, 0, 4), []lock.Lock{reading(1, 4, 1), writing(1, 5, 3), reading(1, 8, 2), reading(1, 20, 0)}},
		{reading(1, 4, 5), []lock.Lock{reading(1, 2, 2), reading(1, 9, 1), reading(1, 20, 0)}},
		{reading(1, 6, 1), []lock.Lock{reading(1, 2, 3), writing(1, 5, 1), writing(1, 7, 1), reading(1, 8, 2), reading(1, 20, 0)}},
		{reading(1, 10, 10), []lock.Lock{reading(1, 2, 3), writing(1, 5, 3), reading(1, 8, 2), reading(1, 20, 0)}},
		{reading(1, 0, 2), []lock.Lock{reading(1, 2, 3), writing(1, 5, 3), reading(1, 8, 2), reading(1, 20, 0)}},
		{reading(1, 30, 5), []lock.Lock{reading(1, 2, 3), writing(1, 5, 3), reading(1, 8, 2), reading(1, 20, 10), reading(1, 35, 0)}},
		{reading(1, 20, far), []lock.Lock{reading(1, 2, 3), writing(1, 5, 3), reading(1, 8, 2), reading(1, far+20, 0)}},
		{reading(1, far, 0), []lock.Lock{reading(1, 2, 3), writing(1, 5, 3), reading(1, 8, 2), reading(1, 20, far-20)}},
		{reading(9, 0, 0), []lock.Lock{reading(1, 2, 3), writing(1, 5, 3), reading(1, 8, 2), reading(1, 20, 0)}},
	} {
		others := []lock.Lock{{H: again, Owner: 1, Write: true}, {H: again, Owner: 1, R: api.Range{At: 7, Size: 1}}, {H: other, Owner: 1}}
		x := locked(t, append(others, reading(1, 2, 8), writing(1, 5, 3), reading(1, 20, 0))...)
		want := append(c.want, lock.Lock{H: again, Owner: 1, R: api.Range{Size: 7}, Write: true}, lock.Lock{H: again, Owner: 1, R: api.Range{At: 7, Size: 1}}, lock.Lock{H: again, Owner: 1, R: api.Range{At: 8}, Write: true}, lock.Lock{H: other, Owner: 1})
		for range 2 { // the second time there is nothing to forget, and no error
			checkErr(t, unlock(x, c.unlock), nil)
			check(t, x, want...)
		}
	}
}

// P81: what is unlocked holds nobody any more, and what others have of the same bytes stays.
func TestUnlockLetsIn(t *testing.T) {
	x := locked(t, reading(1, 0, 10), reading(2, 0, 10))
	held(t, x, writing(3, 4, 2), reading(1, 0, 10))
	checkErr(t, x.Unlock(file, 1, api.Range{At: 4, Size: 2}), nil)
	check(t, x, reading(1, 0, 4), reading(2, 0, 10), reading(1, 6, 4))
	held(t, x, writing(3, 4, 2), reading(2, 0, 10))
	checkErr(t, x.Unlock(file, 2, api.Range{At: 4, Size: 2}), nil)
	take(t, x, writing(3, 4, 2))
	check(t, x, reading(1, 0, 4), reading(2, 0, 4), writing(3, 4, 2), reading(1, 6, 4), reading(2, 6, 4))
}

// P81: a run more than MaxLocks, of whatever nodes and owners, is ErrFull: also one that a range in the midst of another one makes; Test does not ask.
func TestFull(t *testing.T) {
	x := &lock.Table{}
	for i := range api.MaxLocks {
		take(t, x, lock.Lock{H: api.Handle{Node: i % 7, Gen: i % 2}, Owner: i % 3, R: api.Range{At: 10 * i, Size: 5}})
	}
	if n := len(x.List()); n != api.MaxLocks {
		t.Fatalf("%d runs", n)
	}
	for _, wanted := range []lock.Lock{
		{H: other, Owner: 9}, {H: api.Handle{Node: 99}, Owner: 1}, {R: api.Range{At: 6, Size: 3}}, // new ones
		{R: api.Range{At: 1, Size: 3}, Write: true}, {R: api.Range{At: 3, Size: 2}, Write: true}, {R: api.Range{Size: 1}, Write: true}, // parts of run 0
	} {
		tested(t, x, wanted, lock.Lock{}, nil)
		refused(t, x, wanted, lock.Lock{}, api.ErrFull)
	}
	held(t, x, lock.Lock{Owner: 9, Write: true}, lock.Lock{R: api.Range{Size: 5}}) // ErrHeld is told ahead of ErrFull
	was := x.List()
	checkErr(t, x.Unlock(api.Handle{}, 0, api.Range{At: 2, Size: 1}), api.ErrFull)
	check(t, x, was...)
}

// P81: what makes no run more goes, also in a full table.
func TestFullAndNoMore(t *testing.T) {
	for _, c := range []struct {
		wanted lock.Lock
		want   int
	}{
		{reading(1, 0, 1), 0}, {writing(1, 0, 1), 0}, {reading(1, 2*api.MaxLocks-2, 0), 0}, {reading(1, 2*api.MaxLocks-1, 5), 0},
		{reading(1, 1, 1), -1}, {reading(1, 2, 3), -1}, {writing(1, 2, 3), -1}, {reading(1, 0, 0), 1 - api.MaxLocks}, {writing(1, 0, 0), 1 - api.MaxLocks},
	} {
		x := full(t, 1)
		take(t, x, c.wanted)
		if n := len(x.List()) - api.MaxLocks; n != c.want {
			t.Errorf("%v: %d runs more; want %d", c.wanted, n, c.want)
		}
	}
}

// P81: two runs more, of which the last has no room, are none: with one left the midst of a run stays as it was.
func TestFullByTwo(t *testing.T) {
	x := locked(t, reading(1, 0, 10))
	for i := range api.MaxLocks - 2 {
		take(t, x, reading(2, 100+2*i, 1))
	}
	refused(t, x, writing(1, 4, 2), lock.Lock{}, api.ErrFull)
	take(t, x, writing(1, 8, 2))
	refused(t, x, writing(1, 4, 2), lock.Lock{}, api.ErrFull)
	refused(t, x, reading(3, 0, 1), lock.Lock{}, api.ErrFull)
	checkErr(t, x.Unlock(file, 1, api.Range{At: 2, Size: 1}), api.ErrFull)
	checkErr(t, x.Unlock(file, 1, api.Range{At: 8, Size: 1}), nil)
	checkErr(t, x.Unlock(file, 1, api.Range{At: 9, Size: 1}), nil)
	checkErr(t, x.Unlock(file, 1, api.Range{At: 2, Size: 1}), nil)
	if n := len(x.List()); n != api.MaxLocks {
		t.Errorf("%d runs", n)
	}
}

// P81, P82: Unlock and Drop make room.
func TestRoomAgain(t *testing.T) {
	x := full(t, 1)
	wanted := lock.Lock{H: other, Owner: 2, Write: true}
	refused(t, x, wanted, lock.Lock{}, api.ErrFull)
	checkErr(t, x.Unlock(file, 1, api.Range{At: 6, Size: 1}), nil)
	take(t, x, wanted)
	refused(t, x, reading(1, 6, 1), lock.Lock{}, api.ErrFull)
	if n := x.Drop(other, 2); n != 1 {
		t.Errorf("%d runs", n)
	}
	take(t, x, reading(1, 6, 1))
	if n := x.Drop(file, 1); n != api.MaxLocks {
		t.Errorf("%d runs", n)
	}
	check(t, x)
}

// P82: all of an owner's at a node go, of both kinds, and neither another owner's nor those at another node.
func TestDrop(t *testing.T) {
	a, b, c := reading(1, 0, 2), writing(1, 2, 2), reading(1, 9, 0)
	d, e := reading(2, 0, 2), reading(-1, 9, 0)
	f := lock.Lock{H: again, Owner: 1, Write: true}
	g := lock.Lock{H: other, Owner: 1, R: api.Range{Size: 4}}
	x := locked(t, a, b, c, d, e, f, g)
	for _, drop := range []struct {
		h           api.Handle
		owner, want int
		left        []lock.Lock
	}{
		{file, 3, 0, []lock.Lock{a, d, b, e, c, f, g}}, {other, 2, 0, []lock.Lock{a, d, b, e, c, f, g}}, {api.Handle{Node: 1, Gen: 2}, 1, 0, []lock.Lock{a, d, b, e, c, f, g}},
		{file, 1, 3, []lock.Lock{d, e, f, g}}, {file, 1, 0, []lock.Lock{d, e, f, g}},
		{again, 1, 1, []lock.Lock{d, e, g}}, {file, -1, 1, []lock.Lock{d, g}}, {file, 2, 1, []lock.Lock{g}}, {other, 1, 1, nil}, {other, 1, 0, nil},
	} {
		if n := x.Drop(drop.h, drop.owner); n != drop.want {
			t.Errorf("%d runs of %d at %v; want %d", n, drop.owner, drop.h, drop.want)
		}
		check(t, x, drop.left...)
	}
	take(t, x, writing(2, 0, 0))
}

// P82: rising by Node, Gen, At, then Owner, in whatever order they came, and whatever numbers they have.
func TestListRises(t *testing.T) {
	var want []lock.Lock
	for _, node := range []int{math.MinInt, -1, 0, math.MaxInt} {
		for _, gen := range []int{math.MinInt, math.MaxInt} {
			for _, at := range []int{0, 5, far} {
				for _, owner := range []int{math.MinInt, math.MaxInt} {
					want = append(want, lock.Lock{H: api.Handle{Node: node, Gen: gen}, Owner: owner, R: api.Range{At: at, Size: 1}})
				}
			}
		}
	}
	for _, by := range []int{1, 5, 11, 29, 47} { // none of which has a divisor in common with 48
		x := &lock.Table{}
		for i := range want {
			take(t, x, want[i*by%len(want)])
		}
		check(t, x, want...)
	}
}

// P82: a run that is cut, or grows, takes the place among others that it has then.
func TestListRisesStill(t *testing.T) {
	x := locked(t, reading(1, 0, 10), reading(2, 2, 3), reading(3, 6, 0))
	checkErr(t, x.Unlock(file, 1, api.Range{Size: 4}), nil)
	check(t, x, reading(2, 2, 3), reading(1, 4, 6), reading(3, 6, 0))
	checkErr(t, x.Unlock(file, 1, api.Range{At: 5, Size: 2}), nil)
	check(t, x, reading(2, 2, 3), reading(1, 4, 1), reading(3, 6, 0), reading(1, 7, 3))
	take(t, x, reading(3, 0, 6))
	check(t, x, reading(3, 0, 0), reading(2, 2, 3), reading(1, 4, 1), reading(1, 7, 3))
}

// P4: a list is new memory: neither what is written into it, nor what happens later, shows at the other side.
func TestListIsNew(t *testing.T) {
	a, b := reading(1, 0, 5), writing(2, 5, 5)
	x := locked(t, a, b)
	l, m := x.List(), x.List()
	l[0], l[1] = lock.Lock{}, lock.Lock{}
	_ = append(l[:1], lock.Lock{H: other})
	_ = append(l, lock.Lock{H: other})
	check(t, x, a, b)
	take(t, x, writing(1, 0, 3))
	checkErr(t, x.Unlock(file, 2, api.Range{At: 5, Size: 1}), nil)
	x.Drop(file, 1)
	take(t, x, reading(0, 0, 1))
	if !slices.Equal(m, []lock.Lock{a, b}) {
		t.Errorf("%v", m)
	}
}

// P83: whatever is locked by whoever, no byte is held for writing by one while another one holds it: three owners, each way of locking some of three bytes.
func TestAlwaysAlone(t *testing.T) {
	ranges := []api.Range{{}, {Size: 1}, {Size: 2}, {At: 1, Size: 1}, {At: 1, Size: 2}, {At: 2}}
	ways := 2 * len(ranges)
	for i := range ways * ways * ways {
		x := &lock.Table{}
		for owner, how := range []int{i % ways, i / ways % ways, i / ways / ways} {
			x.Lock(file, owner, ranges[how/2], how%2 == 1)
			checkAlone(t, x)
		}
	}
}

// P2: tables of their own, worked on side by side, do not see each other.
func TestSideBySide(t *testing.T) {
	var group sync.WaitGroup
	for i := range 8 {
		x := &lock.Table{}
		group.Go(func() {
			for n := range api.MaxLocks {
				if _, err := x.Lock(file, n, api.Range{At: 10 * n, Size: 1 + i}, i%2 == 0); err != nil {
					t.Error(err)
				}
			}
			for n, l := range x.List() {
				if want := (lock.Lock{H: file, Owner: n, R: api.Range{At: 10 * n, Size: 1 + i}, Write: i%2 == 0}); l != want {
					t.Errorf("%v; want %v", l, want)
				}
			}
		})
	}
	group.Wait()
}
