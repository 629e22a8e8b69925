package lease_test

import (
	"math/rand"
	"slices"
	"testing"

	"pigeonholes/api"
	"pigeonholes/lease"
	"pigeonholes/names"
)

// states of a number.
const (
	waits = iota
	holds
	forgotten
)

// page is what became of a number; began: when its lease did.
type page struct {
	name         string
	state, began int
}

// book is a table as P90 to P93 have it: a page for each number that was given, from 1 on.
type book struct {
	pages []page
	now   int
}

// known names, each once.
func (b *book) known() []string {
	var l []string
	for _, p := range b.pages {
		if p.state != forgotten && !slices.Contains(l, p.name) {
			l = append(l, p.name)
		}
	}
	return l
}

// forget all by a name that are in a state, but one: the last of them.
func (b *book) forget(name string, state, but int) int {
	gone := 0
	for i := range b.pages {
		if p := &b.pages[i]; p.name == name && p.state == state && i+1 != but {
			p.state = forgotten
			gone = i + 1
		}
	}
	return gone
}

func (b *book) register(name string) (int, error) {
	if names.Check(name) != nil {
		return 0, api.ErrName
	}
	if l := b.known(); len(l) >= api.MaxClients && !slices.Contains(l, name) {
		return 0, api.ErrFull
	}
	b.forget(name, waits, 0)
	b.pages = append(b.pages, page{name: name})
	return len(b.pages), nil
}

// at: a number that is in one of these states.
func (b *book) at(id int, states ...int) *page {
	if id < 1 || id > len(b.pages) || !slices.Contains(states, b.pages[id-1].state) {
		return nil
	}
	return &b.pages[id-1]
}

func (b *book) confirm(id, key int) (int, error) {
	p := b.at(id, waits, holds)
	if p == nil {
		return 0, api.ErrNone
	}
	if key != id {
		return 0, api.ErrShape
	}
	p.state, p.began = holds, b.now
	return b.forget(p.name, holds, id), nil
}

func (b *book) renew(id int) error {
	p := b.at(id, holds)
	if p == nil {
		return api.ErrNone
	}
	p.began = b.now
	return nil
}

func (b *book) tick(n int) ([]int, error) {
	if n < 0 || n > far {
		return nil, api.ErrBound
	}
	b.now += n
	var gone []int
	for i := range b.pages {
		if p := b.at(i+1, holds); p != nil && b.now-p.began >= api.Lease {
			p.state = forgotten
			gone = append(gone, i+1)
		}
	}
	return gone, nil
}

func (b *book) list() []int {
	var l []int
	for i := range b.pages {
		if b.at(i+1, holds) != nil {
			l = append(l, i+1)
		}
	}
	return l
}

// compare all that both tell of who is there.
func compare(t *testing.T, x *lease.Table, b *book) {
	t.Helper()
	check(t, x, b.list()...)
	for id := range len(b.pages) + 2 {
		name, err := x.Name(id)
		if p := b.at(id, holds); p != nil && (name != p.name || err != nil) {
			t.Fatalf("%d is %q, %v; want %q", id, name, err, p.name)
		} else if p == nil && (name != "" || err != api.ErrNone) {
			t.Fatalf("%d is %q, %v", id, name, err)
		}
	}
}

// call is one of a table's methods, and what it is given.
type call struct {
	what, id, key, n int
	name             string
}

// step does one call to both, and tells its error.
func step(t *testing.T, x *lease.Table, b *book, c call) error {
	t.Helper()
	var got, want []int
	var err, wantErr error
	switch c.what % 8 {
	case 0, 1:
		id, key, e := x.Register(c.name, c.n)
		n, f := b.register(c.name)
		got, want, err, wantErr = []int{id, key}, []int{n, n}, e, f
	case 2, 3:
		gone, e := x.Confirm(c.id, c.key)
		n, f := b.confirm(c.id, c.key)
		got, want, err, wantErr = []int{gone}, []int{n}, e, f
	case 4, 5:
		err, wantErr = x.Renew(c.id), b.renew(c.id)
	case 6, 7:
		got, err = x.Tick(c.n)
		want, wantErr = b.tick(c.n)
	}
	if !slices.Equal(got, want) || err != wantErr {
		t.Fatalf("%+v: %v, %v; want %v, %v", c, got, err, want, wantErr)
	}
	compare(t, x, b)
	return err
}

// P90 to P93: after any calls a table is as the book has it; many names fill it, few meet often, and ticks go by slowly or fast.
func TestAsItsBook(t *testing.T) {
	met := map[error]int{}
	gone := 0
	for seed := range int64(300) {
		r := rand.New(rand.NewSource(seed))
		most, fast := 1+r.Intn(20), 1+r.Intn(40)
		x, b := lease.New(), &book{}
		for range 200 {
			c := call{what: r.Intn(8), id: len(b.pages) + 1 - r.Intn(2*most+2), n: r.Intn(fast) - r.Intn(2), name: nth(r.Intn(most))}
			if c.key = c.id; r.Intn(10) == 0 {
				c.key += r.Intn(3) - 1
			}
			if r.Intn(20) == 0 {
				c.n, c.name = r.Intn(2*far), ".."
			}
			before := len(b.list())
			met[step(t, x, b, c)]++
			if len(b.list()) < before {
				gone++
			}
		}
	}
	for _, err := range []error{nil, api.ErrName, api.ErrFull, api.ErrNone, api.ErrShape, api.ErrBound} {
		if met[err] < 100 {
			t.Errorf("%v was met %d times", err, met[err])
		}
	}
	if gone < 100 {
		t.Errorf("clients went %d times", gone)
	}
}

// P93: of many who renew, each in its own time, but always in time, none is ever gone.
func TestAllWhoRenewStay(t *testing.T) {
	for seed := range int64(100) {
		r := rand.New(rand.NewSource(seed))
		x := full(t, api.MaxClients)
		var age [api.MaxClients]int
		for range 300 {
			n := r.Intn(api.Lease)
			for i := range age {
				if age[i]+n >= api.Lease {
					renew(t, x, i+1)
					age[i] = 0
				}
				age[i] += n
			}
			tick(t, x, n)
		}
		check(t, x, 1, 2, 3, 4, 5, 6, 7, 8, 9, 10, 11, 12)
	}
}

// FuzzLease takes three bytes for each call: what it is and by which name, of which number, and its key or ticks.
func FuzzLease(f *testing.F) {
	for _, s := range []string{"", "\x00\x00\x00\x02\x01\x01\x06\x00\x3c", "\x00\x00\x00\x02\x01\x01\x00\x00\x00\x02\x02\x02\x04\x02\x00\x06\x00\x3b\x04\x02\x00\x06\x00\x01", "\x00\x00\x00\x08\x00\x00\x02\x02\x02\x06\x00\x1e\x02\x01\x01\x02\x01\x02\x06\x00\x1e\x06\x00\xff"} {
		f.Add(s)
	}
	f.Fuzz(func(t *testing.T, s string) {
		x, b := lease.New(), &book{}
		for len(s) >= 3 && len(s) <= 600 {
			c := call{what: int(s[0]), id: int(int8(s[1])), key: int(int8(s[2])), n: int(int8(s[2])), name: nth(int(s[0] >> 3))}
			if c.n > 100 { // some go far
				c.n = far + 110 - c.n
			}
			step(t, x, b, c)
			s = s[3:]
		}
	})
}
