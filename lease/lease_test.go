package lease_test

import (
	"errors"
	"math"
	"slices"
	"strconv"
	"strings"
	"sync"
	"testing"

	"pigeonholes/api"
	"pigeonholes/lease"
	"pigeonholes/plain"
)

// What the package exports, as it was given.
var (
	_ func() *lease.Table                               = lease.New
	_ func(*lease.Table, string, int) (int, int, error) = (*lease.Table).Register
	_ func(*lease.Table, int, int) (int, error)         = (*lease.Table).Confirm
	_ func(*lease.Table, int) error                     = (*lease.Table).Renew
	_ func(*lease.Table, int) ([]int, error)            = (*lease.Table).Tick
	_ func(*lease.Table, int) (string, error)           = (*lease.Table).Name
	_ func(*lease.Table) []int                          = (*lease.Table).List
)

// far is how many ticks can go by at most.
const far = 1 << 40

// Numbers that no client has, whatever was registered.
var nobody = []int{math.MinInt, -2, -1, 0, 1000, 1 << 32, math.MaxInt}

// Ticks that cannot go by.
var wrong = []int{math.MinInt, -far, -api.Lease, -1, far + 1, 2 * far, math.MaxInt}

// checkErr: the error itself, without a place.
func checkErr(t *testing.T, err, want error) {
	t.Helper()
	var fault *api.Fault
	if err != want || errors.As(err, &fault) {
		t.Fatalf("%v; want %v", err, want)
	}
	if _, at := plain.Code(err); err != nil && at != -1 {
		t.Errorf("%v at %d", err, at)
	}
}

// register a name: it must be given this number.
func register(t *testing.T, x *lease.Table, name string, want int) {
	t.Helper()
	id, key, err := x.Register(name, 1)
	checkErr(t, err, nil)
	if id != want || key != want {
		t.Fatalf("%q is %d, by the key %d; want %d", name, id, key, want)
	}
}

// confirm a number by its own key: this one must be gone.
func confirm(t *testing.T, x *lease.Table, id, want int) {
	t.Helper()
	gone, err := x.Confirm(id, id)
	checkErr(t, err, nil)
	if gone != want {
		t.Fatalf("%d is confirmed, %d gone; want %d", id, gone, want)
	}
}

// tick on: these must be gone.
func tick(t *testing.T, x *lease.Table, n int, want ...int) {
	t.Helper()
	gone, err := x.Tick(n)
	checkErr(t, err, nil)
	if !slices.Equal(gone, want) {
		t.Fatalf("%v are gone behind %d ticks; want %v", gone, n, want)
	}
}

// renew a lease: it must go well.
func renew(t *testing.T, x *lease.Table, l ...int) {
	t.Helper()
	for _, id := range l {
		checkErr(t, x.Renew(id), nil)
	}
}

// check who is confirmed.
func check(t *testing.T, x *lease.Table, want ...int) {
	t.Helper()
	if l := x.List(); !slices.Equal(l, want) {
		t.Fatalf("%v; want %v", l, want)
	}
}

// named: it is confirmed, by that name.
func named(t *testing.T, x *lease.Table, id int, want string) {
	t.Helper()
	name, err := x.Name(id)
	checkErr(t, err, nil)
	if name != want {
		t.Fatalf("%d is %q; want %q", id, name, want)
	}
}

// notConfirmed: it has no name and no lease.
func notConfirmed(t *testing.T, x *lease.Table, l ...int) {
	t.Helper()
	for _, id := range l {
		name, err := x.Name(id)
		checkErr(t, err, api.ErrNone)
		if name != "" {
			t.Fatalf("%d is %q", id, name)
		}
		checkErr(t, x.Renew(id), api.ErrNone)
		if slices.Contains(x.List(), id) {
			t.Fatalf("%d is listed", id)
		}
	}
}

// unknown: there is no such number, whatever its key.
func unknown(t *testing.T, x *lease.Table, l ...int) {
	t.Helper()
	notConfirmed(t, x, l...)
	for _, id := range l {
		for _, key := range append([]int{id, id + 1, 1}, nobody...) {
			gone, err := x.Confirm(id, key)
			checkErr(t, err, api.ErrNone)
			if gone != 0 {
				t.Fatalf("%d is gone", gone)
			}
		}
	}
}

// refused: by Register, and no other result.
func refused(t *testing.T, x *lease.Table, name string, want error) {
	t.Helper()
	id, key, err := x.Register(name, 1)
	checkErr(t, err, want)
	if id != 0 || key != 0 {
		t.Fatalf("%q is %d, by the key %d", name, id, key)
	}
}

// nth makes names that are unlike.
func nth(i int) string { return "n" + strconv.Itoa(i) }

// full makes a table of as many names as can be, from n0 on, with numbers from 1 on; the first of them are confirmed.
func full(t *testing.T, confirmed int) *lease.Table {
	t.Helper()
	x := lease.New()
	for i := range api.MaxClients {
		register(t, x, nth(i), i+1)
		if i < confirmed {
			confirm(t, x, i+1, 0)
		}
	}
	return x
}

// P90: a new table has no clients, and however long it stays so.
func TestNew(t *testing.T) {
	x := lease.New()
	for _, n := range []int{0, 1, api.Lease, far} {
		check(t, x)
		unknown(t, x, append([]int{1, 2}, nobody...)...)
		tick(t, x, n)
	}
	register(t, x, "a", 1)
}

// P90: each gets a new number, and the same one as its key: 1 more than the last, whoever asks, whichever of its beginnings it is.
func TestRegister(t *testing.T) {
	x := lease.New()
	last := 0
	for _, name := range []string{"a", "b", "a", "a", "A", "-", "...", "a_b.C-9", strings.Repeat("x", api.MaxName), "b"} {
		for _, boot := range []int{1, 1, 0, 2, -1, math.MinInt, math.MaxInt, 1} {
			last++
			if id, key, err := x.Register(name, boot); id != last || key != last || err != nil {
				t.Fatalf("%q, %d: %d, %d, %v; want %d", name, boot, id, key, err, last)
			}
			notConfirmed(t, x, last)
		}
	}
	check(t, x)
}

// P90: numbers are not given again, also when all who had one are gone.
func TestNumbersGoOn(t *testing.T) {
	x := lease.New()
	for i := range 100 {
		register(t, x, "a", 2*i+1)
		confirm(t, x, 2*i+1, 0)
		register(t, x, nth(i), 2*i+2)
		confirm(t, x, 2*i+2, 0)
		tick(t, x, api.Lease, 2*i+1, 2*i+2)
		unknown(t, x, 2*i+1, 2*i+2)
	}
	check(t, x)
}

// P90: ErrName, ahead of ErrFull, and no number is given for it.
func TestRegisterNames(t *testing.T) {
	names := []string{"", ".", "..", "a/b", "/", "a b", "ä", "a\x00", "\xff", strings.Repeat("x", api.MaxName+1), strings.Repeat("x", 100000)}
	for _, confirmed := range []int{0, 5, api.MaxClients} {
		x := full(t, confirmed)
		was := x.List()
		for _, name := range names {
			refused(t, x, name, api.ErrName)
			refused(t, lease.New(), name, api.ErrName)
		}
		check(t, x, was...)
		register(t, x, nth(0), api.MaxClients+1)
	}
	x := lease.New()
	for _, name := range names {
		refused(t, x, name, api.ErrName)
	}
	register(t, x, "a", 1)
}

// P90: ErrFull of one name more, confirmed or not, and no number is given for it; one that is known may come again.
func TestRegisterFull(t *testing.T) {
	for confirmed := range api.MaxClients + 1 {
		x := full(t, confirmed)
		was := x.List()
		for range 3 {
			refused(t, x, "z", api.ErrFull)
		}
		last := api.MaxClients
		for range 3 {
			for i := range api.MaxClients {
				last++
				register(t, x, nth(i), last)
			}
			refused(t, x, "z", api.ErrFull)
		}
		check(t, x, was...)
	}
}

// P90: one that waits and one that is confirmed are one name; it is known until both are gone.
func TestNamesAreCounted(t *testing.T) {
	x := full(t, 2) // n0 and n1
	register(t, x, "n0", 13)
	tick(t, x, api.Lease, 1, 2)
	register(t, x, "z", 14) // n1 is not known any more; n0 is, by its new number
	refused(t, x, "n1", api.ErrFull)
	confirm(t, x, 13, 0)
	refused(t, x, "n1", api.ErrFull)
	tick(t, x, api.Lease, 13)
	register(t, x, "n1", 15)
	refused(t, x, "n0", api.ErrFull)
	confirm(t, x, 15, 0)
	check(t, x, 15)
}

// P90: who waits is not forgotten by ticks.
func TestWhoWaitsStays(t *testing.T) {
	x := full(t, 0)
	for _, n := range []int{api.Lease - 1, 1, api.Lease, far} {
		tick(t, x, n)
		refused(t, x, "z", api.ErrFull)
	}
	for i := range api.MaxClients {
		confirm(t, x, i+1, 0)
	}
	tick(t, x, api.Lease-1)
	tick(t, x, 1, 1, 2, 3, 4, 5, 6, 7, 8, 9, 10, 11, 12)
}

// P90: an earlier one by the name that was not confirmed is forgotten; nobody else's, and not one that was.
func TestRegisterAgain(t *testing.T) {
	x := lease.New()
	register(t, x, "a", 1)
	register(t, x, "b", 2)
	register(t, x, "a", 3)
	unknown(t, x, 1)
	confirm(t, x, 2, 0)
	confirm(t, x, 3, 0)
	register(t, x, "a", 4)
	register(t, x, "a", 5)
	unknown(t, x, 1, 4)
	named(t, x, 3, "a")
	renew(t, x, 3)
	check(t, x, 2, 3)
	confirm(t, x, 5, 3)
	check(t, x, 2, 5)
}

// P91: a number is confirmed by its key alone: ErrNone ahead of ErrShape, and nothing else happens by an error.
func TestConfirmKeys(t *testing.T) {
	x := lease.New()
	for i, name := range []string{"a", "b", "a", "c"} { // 1 is forgotten, 2 is confirmed, 3 and 4 wait
		register(t, x, name, i+1)
	}
	confirm(t, x, 2, 0)
	tick(t, x, api.Lease-1)
	for id := 2; id <= 4; id++ {
		for _, key := range append([]int{1, 2, 3, 4, 5, -id}, nobody...) {
			if key == id {
				continue
			}
			gone, err := x.Confirm(id, key)
			checkErr(t, err, api.ErrShape)
			if gone != 0 {
				t.Fatalf("%d is gone", gone)
			}
		}
	}
	unknown(t, x, 1, 5)
	unknown(t, x, nobody...)
	check(t, x, 2)
	notConfirmed(t, x, 3, 4)
	tick(t, x, 1, 2) // a wrong key did not renew it
	confirm(t, x, 3, 0)
	confirm(t, x, 4, 0)
	check(t, x, 3, 4)
}

// P91: the one before, by the same name, is gone at once, however fresh its lease; of other names nobody is.
func TestConfirmInstead(t *testing.T) {
	x := lease.New()
	register(t, x, "a", 1)
	confirm(t, x, 1, 0)
	register(t, x, "b", 2)
	confirm(t, x, 2, 0)
	was := 1
	for id := 3; id < 20; id++ {
		register(t, x, "a", id)
		named(t, x, was, "a") // until the new one is confirmed
		renew(t, x, was)
		confirm(t, x, id, was)
		unknown(t, x, was)
		named(t, x, id, "a")
		check(t, x, 2, id)
		was = id
	}
}

// P91: confirmed again: nothing but its lease; another one that waits, waits on.
func TestConfirmAgain(t *testing.T) {
	x := lease.New()
	register(t, x, "a", 1)
	confirm(t, x, 1, 0)
	for range 3 {
		tick(t, x, api.Lease-1)
		confirm(t, x, 1, 0)
		check(t, x, 1)
	}
	register(t, x, "a", 2)
	tick(t, x, api.Lease-1)
	confirm(t, x, 1, 0)
	tick(t, x, api.Lease-1)
	check(t, x, 1)
	notConfirmed(t, x, 2)
	confirm(t, x, 2, 1)
	confirm(t, x, 2, 0)
	unknown(t, x, 1)
	check(t, x, 2)
}

// P91: a lease begins when it is confirmed, neither with the number, nor with that of the one before.
func TestConfirmBegins(t *testing.T) {
	x := lease.New()
	register(t, x, "a", 1)
	tick(t, x, api.Lease-1)
	confirm(t, x, 1, 0)
	register(t, x, "a", 2)
	tick(t, x, api.Lease-1)
	confirm(t, x, 2, 1)
	tick(t, x, api.Lease-1)
	check(t, x, 2)
	tick(t, x, 1, 2)
	check(t, x)
}

// P92: a lease that is Lease ticks old is over, in however many calls they went by, and not one ahead.
func TestTick(t *testing.T) {
	for _, c := range []struct {
		young []int
		last  int
	}{
		{nil, api.Lease},
		{nil, api.Lease + 1},
		{nil, far - 1},
		{nil, far},
		{[]int{0}, api.Lease},
		{[]int{api.Lease - 1}, 1},
		{[]int{api.Lease - 1, 0, 0}, 1},
		{[]int{1, api.Lease - 2}, far},
		{[]int{api.Lease / 2}, api.Lease / 2},
		{slices.Repeat([]int{1}, api.Lease-1), 1},
	} {
		x := lease.New()
		register(t, x, "a", 1)
		confirm(t, x, 1, 0)
		for _, n := range c.young {
			tick(t, x, n)
			named(t, x, 1, "a")
		}
		tick(t, x, c.last, 1)
		unknown(t, x, 1)
		check(t, x)
		tick(t, x, far)
		tick(t, x, 0)
		register(t, x, "a", 2)
		confirm(t, x, 2, 0)
	}
}

// P92: ErrBound of ticks that cannot go by, and then none do.
func TestTickBounds(t *testing.T) {
	x := lease.New()
	register(t, x, "a", 1)
	confirm(t, x, 1, 0)
	register(t, x, "b", 2)
	tick(t, x, api.Lease-1)
	for _, n := range wrong {
		gone, err := x.Tick(n)
		checkErr(t, err, api.ErrBound)
		if len(gone) != 0 {
			t.Fatalf("%v are gone", gone)
		}
		check(t, x, 1)
		tick(t, x, 0)
	}
	tick(t, x, 1, 1)
}

// P92: those who are gone are told rising, and no others go; whatever their names, and the order in which they were confirmed.
func TestTickTellsRising(t *testing.T) {
	for _, by := range []int{1, 5, 7, 11} { // none of which has a divisor in common with 12
		x := lease.New()
		for i := range api.MaxClients {
			register(t, x, nth(i*by%api.MaxClients), i+1)
		}
		for i := range api.MaxClients {
			confirm(t, x, (i*by+3)%api.MaxClients+1, 0)
			tick(t, x, 1)
		}
		check(t, x, 1, 2, 3, 4, 5, 6, 7, 8, 9, 10, 11, 12)
		renew(t, x, 2, 11)
		tick(t, x, api.Lease-1, 1, 3, 4, 5, 6, 7, 8, 9, 10, 12)
		check(t, x, 2, 11)
		tick(t, x, 1, 2, 11)
		check(t, x)
	}
}

// P92: of a name of which one is gone another one may wait, and waits on.
func TestTickLeavesWhoWaits(t *testing.T) {
	x := lease.New()
	register(t, x, "a", 1)
	confirm(t, x, 1, 0)
	register(t, x, "a", 2)
	tick(t, x, api.Lease, 1)
	unknown(t, x, 1)
	notConfirmed(t, x, 2)
	tick(t, x, far)
	confirm(t, x, 2, 0) // 1 is not gone once more
	named(t, x, 2, "a")
	tick(t, x, api.Lease-1)
	check(t, x, 2)
}

// P92, P93: a lease that is renewed begins anew, and no other one does.
func TestRenew(t *testing.T) {
	x := lease.New()
	for i, name := range []string{"a", "b", "c"} {
		register(t, x, name, i+1)
	}
	confirm(t, x, 1, 0)
	confirm(t, x, 2, 0)
	checkErr(t, x.Renew(3), api.ErrNone) // it waits, and has no lease
	tick(t, x, api.Lease-1)
	renew(t, x, 1, 1)
	tick(t, x, 1, 2)
	checkErr(t, x.Renew(2), api.ErrNone)
	check(t, x, 1)
	tick(t, x, api.Lease-2)
	renew(t, x, 1)
	tick(t, x, api.Lease-1)
	check(t, x, 1)
	notConfirmed(t, x, 2, 3)
	notConfirmed(t, x, nobody...)
	tick(t, x, 1, 1)
}

// P92: a name is told of who is confirmed, as it was given.
func TestName(t *testing.T) {
	x := lease.New()
	l := []string{"a", "A", "...", "x-1", strings.Repeat("9", api.MaxName)}
	for i, name := range l {
		register(t, x, name, i+1)
	}
	notConfirmed(t, x, 1, 2, 3, 4, 5)
	for i, name := range l {
		confirm(t, x, i+1, 0)
		named(t, x, i+1, name)
	}
	for i, name := range l {
		register(t, x, name, i+6)
		named(t, x, i+1, name)
		notConfirmed(t, x, i+6)
	}
	notConfirmed(t, x, nobody...)
}

// P92: confirmed ones, rising, in whatever order they were confirmed.
func TestListRises(t *testing.T) {
	for _, by := range []int{1, 5, 7, 11} {
		x := full(t, 0)
		var want []int
		for i := range api.MaxClients {
			id := (i*by+5)%api.MaxClients + 1
			confirm(t, x, id, 0)
			want = append(want, id)
			slices.Sort(want)
			check(t, x, want...)
		}
	}
}

// P93: who renews in time stays, however long, and whatever the others do.
func TestWhoRenewsStays(t *testing.T) {
	x := lease.New()
	register(t, x, "a", 1)
	confirm(t, x, 1, 0)
	for i := range 1000 {
		register(t, x, "b", i+2)
		confirm(t, x, i+2, 0)
		tick(t, x, api.Lease-1)
		renew(t, x, 1)
		tick(t, x, 1, i+2)
		check(t, x, 1)
		renew(t, x, 1)
	}
}

// P92, P93: leases are counted right where all ticks together come to 2^63, and behind it.
func TestTicksTogether(t *testing.T) {
	x := lease.New()
	for range 1<<23 - 1 {
		if _, err := x.Tick(far); err != nil {
			t.Fatal(err)
		}
	}
	tick(t, x, far-api.Lease/2)
	register(t, x, "a", 1)
	register(t, x, "b", 2)
	confirm(t, x, 1, 0)
	confirm(t, x, 2, 0)
	for range api.Lease - 1 {
		tick(t, x, 1)
		renew(t, x, 2)
	}
	tick(t, x, 1, 1)
	check(t, x, 2)
	tick(t, x, api.Lease, 2)
}

// P4: lists are new memory: neither what is written into them, nor what happens later, shows at the other side.
func TestListsAreNew(t *testing.T) {
	x := full(t, 4)
	l, m := x.List(), x.List()
	l[0], l[1] = 7, 8
	_ = append(l[:2], 9)
	_ = append(l, 10)
	check(t, x, 1, 2, 3, 4)
	renew(t, x, 4)
	tick(t, x, api.Lease-1)
	renew(t, x, 4)
	gone, err := x.Tick(1)
	checkErr(t, err, nil)
	tick(t, x, api.Lease, 4)
	if !slices.Equal(m, []int{1, 2, 3, 4}) || !slices.Equal(gone, []int{1, 2, 3}) {
		t.Errorf("%v, %v", m, gone)
	}
	gone[0] = 5
	unknown(t, x, 1)
	check(t, x)
}

// P2: tables of their own, worked on side by side, do not see each other.
func TestSideBySide(t *testing.T) {
	var group sync.WaitGroup
	for i := range 8 {
		x := lease.New()
		group.Go(func() {
			for n := range api.MaxClients {
				id, key, err := x.Register(nth(n), i)
				if id != n+1 || key != n+1 || err != nil {
					t.Errorf("%d, %d, %v; want %d", id, key, err, n+1)
				}
				if n <= i {
					x.Confirm(id, key)
				}
			}
			if l := x.List(); len(l) != i+1 {
				t.Errorf("%v; want %d", l, i+1)
			}
			if gone, err := x.Tick(api.Lease); len(gone) != i+1 || err != nil {
				t.Errorf("%v, %v; want %d", gone, err, i+1)
			}
		})
	}
	group.Wait()
}
