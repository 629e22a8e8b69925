package lock_test

import (
	"cmp"
	"math"
	"math/rand"
	"slices"
	"testing"

	"pigeonholes/api"
	"pigeonholes/lock"
)

// near is how many bytes the book knows one by one.
const near = 24

// places at which ranges of the book begin and end, rising: each byte from 0 on to near, and what lies about the edges. A cell goes from one place up to the next one; the last cell has no end.
func places() []int {
	var l []int
	for at := range near {
		l = append(l, at)
	}
	return append(l, far-1, far, far+1, 2*far-1, 2*far)
}

const cells = near + 5

// key of what an owner has at a node.
type key struct {
	h     api.Handle
	owner int
}

// book is a table as P80 to P83 have it: for each node, owner and cell 0 nothing, 1 read, 2 write.
type book map[key][cells]int

func (b book) copy() book {
	c := book{}
	for k, v := range b {
		c[k] = v
	}
	return c
}

// runs of one owner at one node.
func (b book) runs(k key) []lock.Lock {
	at := append(places(), 0)
	var l []lock.Lock
	for i, kind := range b[k] {
		if kind == 0 {
			continue
		}
		if i == 0 || b[k][i-1] != kind {
			l = append(l, lock.Lock{H: k.h, Owner: k.owner, R: api.Range{At: at[i]}, Write: kind == 2})
		}
		if last := &l[len(l)-1]; i < cells-1 {
			last.R.Size = at[i+1] - last.R.At
		} else {
			last.R.Size = 0
		}
	}
	return l
}

func (b book) list() []lock.Lock {
	var l []lock.Lock
	for k := range b {
		l = append(l, b.runs(k)...)
	}
	slices.SortFunc(l, func(a, b lock.Lock) int {
		return cmp.Or(cmp.Compare(a.H.Node, b.H.Node), cmp.Compare(a.H.Gen, b.H.Gen), cmp.Compare(a.R.At, b.R.At), cmp.Compare(a.Owner, b.Owner))
	})
	return l
}

// inBound tells what is a range.
func inBound(r api.Range) bool {
	return !(r.At < 0 || r.At > far || r.Size < 0 || r.Size > far)
}

// put a kind into an owner's cells; false, and nothing done, if there would be too many runs.
func (b book) put(k key, r api.Range, kind int) bool {
	c := b.copy()
	v := c[k]
	for i, at := range places() {
		if isIn(at, r) {
			v[i] = kind
		}
	}
	c[k] = v
	if len(c.list()) > api.MaxLocks {
		return false
	}
	b[k] = v
	return true
}

func (b book) test(k key, r api.Range, kind int) (lock.Lock, error) {
	if !inBound(r) {
		return lock.Lock{}, api.ErrBound
	}
	for _, l := range b.list() {
		for _, at := range places() {
			if l.H == k.h && l.Owner != k.owner && isIn(at, r) && isIn(at, l.R) && (kind == 2 || l.Write) {
				return l, api.ErrHeld
			}
		}
	}
	return lock.Lock{}, nil
}

func (b book) lock(k key, r api.Range, kind int) (lock.Lock, error) {
	if l, err := b.test(k, r, kind); err != nil {
		return l, err
	}
	if !b.put(k, r, kind) {
		return lock.Lock{}, api.ErrFull
	}
	return lock.Lock{}, nil
}

func (b book) unlock(k key, r api.Range) error {
	if !inBound(r) {
		return api.ErrBound
	}
	if !b.put(k, r, 0) {
		return api.ErrFull
	}
	return nil
}

func (b book) drop(k key) int {
	n := len(b.runs(k))
	delete(b, k)
	return n
}

// goTogether: P80's runs, and P83's bytes.
func goTogether(a, b lock.Lock) bool {
	aEnd, bEnd := a.R.At+a.R.Size, b.R.At+b.R.Size
	if a.R.Size == 0 {
		aEnd = math.MaxInt
	}
	if b.R.Size == 0 {
		bEnd = math.MaxInt
	}
	apart := aEnd < b.R.At || bEnd < a.R.At
	beside := aEnd == b.R.At || bEnd == a.R.At
	switch {
	case a.H != b.H:
		return true
	case a.Owner == b.Owner:
		return apart || beside && a.Write != b.Write
	}
	return apart || beside || !a.Write && !b.Write
}

// checkAlone: of all that is there.
func checkAlone(t *testing.T, x *lock.Table) {
	t.Helper()
	l := x.List()
	if len(l) > api.MaxLocks {
		t.Fatalf("%d runs", len(l))
	}
	for i, a := range l {
		for _, b := range l[:i] {
			if !goTogether(a, b) {
				t.Fatalf("%v and %v", a, b)
			}
		}
	}
}

// step does one call to both.
func step(t *testing.T, x *lock.Table, b book, what int, k key, r api.Range, write bool) {
	t.Helper()
	kind := 1
	if write {
		kind = 2
	}
	var got, want lock.Lock
	var err, wantErr error
	switch what % 8 {
	case 0, 1, 2, 3:
		got, err = x.Lock(k.h, k.owner, r, write)
		want, wantErr = b.lock(k, r, kind)
	case 4, 5:
		err, wantErr = x.Unlock(k.h, k.owner, r), b.unlock(k, r)
	case 6:
		got, err = x.Test(k.h, k.owner, r, write)
		want, wantErr = b.test(k, r, kind)
	case 7:
		if n, m := x.Drop(k.h, k.owner), b.drop(k); n != m {
			t.Fatalf("%d runs of %v; want %d", n, k, m)
		}
	}
	if got != want || err != wantErr {
		t.Fatalf("call %d of %v, %v, %v: %v, %v; want %v, %v", what%8, k, r, write, got, err, want, wantErr)
	}
	check(t, x, b.list()...)
	checkAlone(t, x)
}

// between two places, by their numbers: mostly a range.
func between(from, to int) api.Range {
	at := places()
	from %= cells
	if to %= cells + 1; to == cells {
		return api.Range{At: at[from]}
	}
	return api.Range{At: at[from], Size: at[to] - at[from]}
}

// P80 to P83: after any calls a table is as the book has it; long ranges meet often, short ones fill it.
func TestAsItsBook(t *testing.T) {
	met := map[error]int{}
	for seed := range int64(150) {
		r := rand.New(rand.NewSource(seed))
		nodes, owners, long, writers := 1+r.Intn(3), 1+r.Intn(8), 1+r.Intn(near), 1+r.Intn(5)
		x, b := &lock.Table{}, book{}
		for range 250 {
			k := key{api.Handle{Node: r.Intn(nodes), Gen: r.Intn(2)}, r.Intn(owners) - 1}
			from := r.Intn(cells)
			given := between(from, from+1+r.Intn(long))
			if r.Intn(20) == 0 {
				given = between(from, r.Intn(cells+1))
			}
			what, write := r.Intn(8), r.Intn(writers) == 0
			if what == 7 && r.Intn(8) > 0 { // owners that go too often leave no room to be filled
				what = 0
			}
			if what < 4 {
				_, err := b.copy().lock(k, given, 1)
				met[err]++
			}
			step(t, x, b, what, k, given, write)
		}
	}
	for _, err := range []error{nil, api.ErrBound, api.ErrHeld, api.ErrFull} {
		if met[err] < 100 {
			t.Errorf("%v was met %d times", err, met[err])
		}
	}
}

// FuzzLock takes four bytes for each call: what it is, of which owner and kind; of which handle; and two places.
func FuzzLock(f *testing.F) {
	for _, s := range []string{"", "\x00\x10\x00\x0a", "\x00\x10\x00\x0a\x80\x10\x03\x06\x08\x10\x06\x1d\x04\x10\x05\x07", "\x80\x10\x17\x1b\x84\x10\x18\x1d\x8e\x10\x00\x1d\x07\x10\x00\x00"} {
		f.Add(s)
	}
	f.Fuzz(func(t *testing.T, s string) {
		x, b := &lock.Table{}, book{}
		for len(s) >= 4 && len(s) <= 800 {
			k := key{api.Handle{Node: int(s[1] >> 4), Gen: int(s[1] & 15)}, int(s[0]>>3&15) - 1}
			step(t, x, b, int(s[0]), k, between(int(s[2]), int(s[3])), s[0] >= 128)
			s = s[4:]
		}
	})
}
