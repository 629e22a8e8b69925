package share_test

import (
	"cmp"
	"math/rand"
	"slices"
	"testing"

	"pigeonholes/api"
	"pigeonholes/share"
)

// isPart: of 0 to 3, both bits one by one.
func isPart(n, whole int) bool {
	return (n%2 == 0 || whole%2 == 1) && (n/2 == 0 || whole/2 == 1)
}

// goTogether: neither has what the other one denies.
func goTogether(a, b share.Open) bool {
	return isPart(a.Access, 3-b.Deny) && isPart(b.Access, 3-a.Deny)
}

// checkTogether: P73 of all that is there.
func checkTogether(t *testing.T, x *share.Table) {
	t.Helper()
	l := x.List()
	for i, a := range l {
		for _, b := range l[:i] {
			if a.H == b.H && (a.Owner == b.Owner || !goTogether(a, b)) {
				t.Fatalf("%v and %v", a, b)
			}
		}
	}
}

// key of an open.
type key struct {
	h     api.Handle
	owner int
}

// rights of an open: what it has, and what it denies.
type rights struct{ access, deny int }

// book is a table as P70 to P73 have it.
type book map[key]rights

func (b book) list() []share.Open {
	var l []share.Open
	for k, r := range b {
		l = append(l, share.Open{H: k.h, Owner: k.owner, Access: r.access, Deny: r.deny})
	}
	slices.SortFunc(l, func(a, b share.Open) int {
		return cmp.Or(cmp.Compare(a.H.Node, b.H.Node), cmp.Compare(a.H.Gen, b.H.Gen), cmp.Compare(a.Owner, b.Owner))
	})
	return l
}

// join of 0 to 3, both bits one by one.
func join(n, m int) int { return max(n%2, m%2) + 2*max(n/2, m/2) }

func (b book) open(k key, r rights) error {
	if r.access < 1 || r.access > 3 || r.deny < 0 || r.deny > 3 {
		return api.ErrBound
	}
	had, ok := b[k]
	became := share.Open{H: k.h, Owner: k.owner, Access: join(had.access, r.access), Deny: join(had.deny, r.deny)}
	for _, o := range b.list() {
		if o.H == k.h && o.Owner != k.owner && !goTogether(o, became) {
			return api.ErrHeld
		}
	}
	if !ok && len(b) == api.MaxOpens {
		return api.ErrFull
	}
	b[k] = rights{became.Access, became.Deny}
	return nil
}

func (b book) down(k key, r rights) error {
	had, ok := b[k]
	switch {
	case !ok:
		return api.ErrNone
	case r.access < 1 || r.access > 3 || r.deny < 0 || r.deny > 3:
		return api.ErrBound
	case !isPart(r.access, had.access) || !isPart(r.deny, had.deny):
		return api.ErrShape
	}
	b[k] = r
	return nil
}

func (b book) close(k key) error {
	if _, ok := b[k]; !ok {
		return api.ErrNone
	}
	delete(b, k)
	return nil
}

func (b book) may(k key, access int) error {
	if access < 1 || access > 3 {
		return api.ErrBound
	}
	if !isPart(access, b[k].access) {
		return api.ErrNone
	}
	return nil
}

func (b book) anyone(h api.Handle, access int) error {
	if access < 1 || access > 3 {
		return api.ErrBound
	}
	for k, r := range b {
		if k.h == h && !isPart(access, 3-r.deny) {
			return api.ErrHeld
		}
	}
	return nil
}

func (b book) drop(owner int) int {
	n := 0
	for k := range b {
		if k.owner == owner {
			delete(b, k)
			n++
		}
	}
	return n
}

// step does one call to both.
func step(t *testing.T, x *share.Table, b book, what int, k key, r rights) {
	t.Helper()
	var got, want error
	switch what % 8 {
	case 0, 1, 2:
		got, want = x.Open(k.h, k.owner, r.access, r.deny), b.open(k, r)
	case 3:
		got, want = x.Down(k.h, k.owner, r.access, r.deny), b.down(k, r)
	case 4:
		got, want = x.Close(k.h, k.owner), b.close(k)
	case 5:
		got, want = x.May(k.h, k.owner, r.access), b.may(k, r.access)
	case 6:
		got, want = x.Anyone(k.h, r.access), b.anyone(k.h, r.access)
	case 7:
		if n, m := x.Drop(k.owner), b.drop(k.owner); n != m {
			t.Fatalf("%d opens of %d; want %d", n, k.owner, m)
		}
	}
	if got != want {
		t.Fatalf("call %d of %v, %v: %v; want %v", what%8, k, r, got, want)
	}
	check(t, x, b.list()...)
	checkTogether(t, x)
}

// P70 to P73: after any calls a table is as the book has it; few nodes and owners meet often, many fill it.
func TestAsItsBook(t *testing.T) {
	for seed := range int64(200) {
		r := rand.New(rand.NewSource(seed))
		nodes, owners, denied := 1+r.Intn(12), 2+r.Intn(20), 1+r.Intn(8)
		x, b := &share.Table{}, book{}
		for range 200 {
			k := key{api.Handle{Node: r.Intn(nodes), Gen: r.Intn(2)}, r.Intn(owners) - 1}
			given := rights{access: r.Intn(5)}
			if r.Intn(denied) == 0 {
				given.deny = r.Intn(6) - 1
			}
			what := r.Intn(8)
			if what == 7 && r.Intn(8) > 0 { // owners that go too often leave no room to be filled
				what = 0
			}
			step(t, x, b, what, k, given)
		}
	}
}

// FuzzShare takes three bytes for each call: what it is and of which owner, of which handle, and two numbers.
func FuzzShare(f *testing.F) {
	for _, s := range []string{"", "\x00\x10\x10", "\x00\x10\x10\x08\x10\x22\x03\x10\x20\x07\x10\x00", "\x00\x10\x43\x08\x10\x20\x05\x10\x20\x06\x10\x20"} {
		f.Add(s)
	}
	f.Fuzz(func(t *testing.T, s string) {
		x, b := &share.Table{}, book{}
		for len(s) >= 3 && len(s) <= 600 {
			k := key{api.Handle{Node: int(s[1] >> 4), Gen: int(s[1] & 15)}, int(s[0]>>3) - 1}
			step(t, x, b, int(s[0]), k, rights{int(s[2]>>4) - 1, int(s[2]&15) - 1})
			s = s[3:]
		}
	})
}
