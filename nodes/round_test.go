package nodes_test

import (
	"math/rand"
	"testing"

	"pigeonholes/api"
	"pigeonholes/nodes"
)

// history is a table as P50 to P53 have it: all handles that were ever given, in their order, with what is told of them, until they are gone.
type history struct {
	most  int
	given []api.Handle
	told  map[api.Handle]api.Attr // of those that are there
}

// add takes the first number of which no handle is there, and counts how often it was given.
func (x *history) add(kind int) (api.Handle, error) {
	if kind != api.File && kind != api.Dir {
		return api.Handle{}, api.ErrShape
	}
	used := map[int]int{}
	for h := range x.told {
		used[h.Node]++
	}
	for i := range x.most {
		if used[i] > 0 {
			continue
		}
		h := api.Handle{Node: i}
		for _, old := range x.given {
			if old.Node == i {
				h.Gen++
			}
		}
		x.given = append(x.given, h)
		x.told[h] = api.Attr{Kind: kind}
		return h, nil
	}
	return api.Handle{}, api.ErrFull
}

func (x *history) set(h api.Handle, size, links int, up api.Handle) error {
	a, ok := x.told[h]
	if !ok {
		return api.ErrStale
	}
	if size < 0 || links < 0 {
		return api.ErrBound
	}
	if a.Kind == api.Dir {
		a.Size, a.Up = size, up
	}
	a.Links = links
	a.Change++
	x.told[h] = a
	return nil
}

func (x *history) touch(h api.Handle) error {
	a, ok := x.told[h]
	if !ok {
		return api.ErrStale
	}
	a.Change++
	x.told[h] = a
	return nil
}

func (x *history) resize(h api.Handle, n int) error {
	a, ok := x.told[h]
	switch {
	case !ok:
		return api.ErrStale
	case a.Kind == api.Dir:
		return api.ErrFile
	case n < 0:
		return api.ErrBound
	}
	a.Size = n
	x.told[h] = a
	return nil
}

func (x *history) free(h api.Handle) error {
	if _, ok := x.told[h]; !ok {
		return api.ErrStale
	}
	delete(x.told, h)
	return nil
}

// resizeData of a file of the table itself.
func resizeData(x *nodes.Table, h api.Handle, n int) error {
	d, err := x.Data(h)
	if err != nil {
		return err
	}
	return d.Resize(n)
}

// holdAgainst all handles that were ever given.
func holdAgainst(t *testing.T, x *nodes.Table, y *history) {
	t.Helper()
	if x.Count() != len(y.told) {
		t.Fatalf("%d are there; want %d", x.Count(), len(y.told))
	}
	for _, h := range y.given {
		want, ok := y.told[h]
		a, err := x.Attr(h)
		if a != want || ok != (err == nil) || !ok && err != api.ErrStale {
			t.Fatalf("%v: %v, %v; want %v, %v", h, a, err, want, ok)
		}
	}
}

// step does one call to both.
func step(t *testing.T, x *nodes.Table, y *history, what int, h, up api.Handle, n, m int) {
	t.Helper()
	var got, want error
	switch what % 6 {
	case 0, 1:
		var a, b api.Handle
		a, got = x.Add(n)
		b, want = y.add(n)
		if a != b {
			t.Fatalf("%v; want %v", a, b)
		}
	case 2:
		got, want = x.Set(h, n, m, up), y.set(h, n, m, up)
	case 3:
		got, want = x.Touch(h), y.touch(h)
	case 4:
		got, want = x.Free(h), y.free(h)
	case 5:
		got, want = resizeData(x, h, n), y.resize(h, n)
	}
	if got != want {
		t.Fatalf("call %d of %v: %v; want %v", what%6, h, got, want)
	}
	holdAgainst(t, x, y)
}

// P50 to P53: after any calls all handles that were ever given are as their history has it.
func TestAsItsHistory(t *testing.T) {
	for seed := range int64(300) {
		r := rand.New(rand.NewSource(seed))
		most := 1 + r.Intn(8)
		x, y := table(t, most), &history{most: most, told: map[api.Handle]api.Attr{}}
		handle := func() api.Handle {
			if len(y.given) > 0 && r.Intn(10) > 0 {
				return y.given[r.Intn(len(y.given))]
			}
			return api.Handle{Node: r.Intn(most+2) - 1, Gen: r.Intn(4) - 1}
		}
		for range 150 {
			step(t, x, y, r.Intn(6), handle(), handle(), r.Intn(5)-1, r.Intn(9)-1)
		}
	}
}

// FuzzTable takes four bytes for each call: what it is, of which handle, and two numbers.
func FuzzTable(f *testing.F) {
	for _, s := range []string{"", "\x00\x00\x01\x00", "\x00\x00\x01\x00\x04\x10\x00\x00\x00\x00\x02\x00\x03\x11\x00\x00", "\x00\x00\x01\x00\x05\x10\x09\x00\x02\x10\x07\x02"} {
		f.Add(s)
	}
	f.Fuzz(func(t *testing.T, s string) {
		x, y := table(t, 5), &history{most: 5, told: map[api.Handle]api.Attr{}}
		for len(s) >= 4 && len(s) <= 800 {
			h := api.Handle{Node: int(s[1]>>4) - 1, Gen: int(s[1]&15) - 1}
			step(t, x, y, int(s[0]), h, api.Handle{Node: int(s[3])}, int(int8(s[2])), int(int8(s[3])))
			s = s[4:]
		}
	})
}
