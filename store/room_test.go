package store_test

import (
	"slices"
	"strconv"
	"strings"
	"testing"

	"pigeonholes/api"
	"pigeonholes/store"
)

// amount of what a tree has: nodes and numbers that are free, entries, and blocks that are no holes.
type amount struct{ numbers, entries, blocks int }

// hasRoom: is there room on a disk, by what P181 says?
func (a amount) hasRoom(sectors int) bool {
	return 3*(2000+100*a.numbers+100*a.entries+80*a.blocks) <= 64*sectors
}

// least disk on which there is room.
func (a amount) least() int {
	n := 1
	for !a.hasRoom(n) {
		n++
	}
	return n
}

// crowd a store with as many clients as can be, by the longest names.
func crowd(t *testing.T, s *store.Store) {
	t.Helper()
	for i := range api.MaxClients {
		join(t, s, strings.Repeat(string(rune('a'+i)), api.MaxName))
	}
}

// long names.
func long(i int) string { return strings.Repeat("n", api.MaxName-3) + strconv.Itoa(100+i) }

// P181: where a tree's amount has room it is written, on the least disk for it, with all clients that can be; behind Open too, in grace, with as many besides.
func TestRoom(t *testing.T) {
	for name, grow := range map[string]func(t *testing.T, s *store.Store) amount{
		"nothing": func(t *testing.T, s *store.Store) amount { return amount{numbers: 1} },
		"files": func(t *testing.T, s *store.Store) amount {
			for i := range 60 {
				well(t, s, root, file(long(i)))
			}
			return amount{numbers: 61, entries: 60}
		},
		"dirs": func(t *testing.T, s *store.Store) amount {
			l := []op{root}
			for i := range api.MaxDeep {
				l = append(l, dir(long(i)))
			}
			well(t, s, l...)
			return amount{numbers: 13, entries: 12}
		},
		"links": func(t *testing.T, s *store.Store) amount {
			for i := range 7 {
				well(t, s, root, file(long(i*8)), op{Kind: "save"}, root)
				for k := 1; k < api.MaxLinks; k++ {
					well(t, s, root, lookup(long(i*8)), op{Kind: "save"}, root, op{Kind: "link", Name: long(i*8 + k)})
				}
			}
			return amount{numbers: 8, entries: 56}
		},
		"numbers that are free": func(t *testing.T, s *store.Store) amount {
			for i := range 60 {
				well(t, s, root, file(long(i)))
			}
			for i := range 60 {
				well(t, s, root, remove(long(i)))
			}
			return amount{numbers: 61}
		},
		"blocks": func(t *testing.T, s *store.Store) amount {
			for i := range 3 {
				well(t, s, root, file(long(i)), write(0, noise(uint32(i), api.MaxFile), state{}))
			}
			return amount{numbers: 4, entries: 3, blocks: 192}
		},
		"holes": func(t *testing.T, s *store.Store) amount {
			for i := range 5 {
				well(t, s, root, file(long(i)), write(api.MaxFile-1, "x", state{}))
			}
			return amount{numbers: 6, entries: 5, blocks: 5}
		},
	} {
		t.Run(name, func(t *testing.T) {
			_, x := begin(t, api.MaxSectors, 100)
			a := grow(t, x)
			d, s := begin(t, a.least(), 100)
			crowd(t, s)
			grow(t, s)
			if snapshot(s) != snapshot(x) || lasting(t, d) != snapshot(x) {
				t.Fatalf("%d sectors: %q", a.least(), lasting(t, d))
			}
			o := open(t, d, 100)
			for i := range api.MaxClients {
				join(t, o, strings.Repeat(strconv.Itoa(i%10), api.MaxName-1)+string(rune('a'+i)))
			}
			if lasting(t, d) != snapshot(x) {
				t.Fatalf("%d sectors: %q", a.least(), lasting(t, d))
			}
		})
	}
}

// P181: that room is there whatever was there before, also where it was more.
func TestRoomBehindMore(t *testing.T) {
	a := amount{numbers: 4, entries: 1, blocks: 64}
	d, s := begin(t, a.least(), 100)
	if a := (amount{numbers: 4, entries: 3, blocks: 70}); a.hasRoom(d.Sectors()) {
		t.Fatal(a)
	}
	for round := range 10 {
		well(t, s, root, file("a"), write(0, noise(uint32(round), api.MaxFile), state{}), root, file("b"), write(0, noise(9, 64), state{}), root, file("c"))
		for n := 0; ; n += 64 {
			before := snapshot(s)
			if _, err := s.Compound([]op{root, lookup("b"), write(n, noise(uint32(n), 64), state{})}); err != nil {
				checkErr(t, err, api.ErrFull)
				if lasting(t, d) != before {
					t.Fatal(lasting(t, d))
				}
				break
			}
			if n == api.MaxFile-64 {
				break
			}
		}
		s = open(t, d, 100)
		well(t, s, root, remove("b"), remove("c"))
		if round%2 == 0 {
			well(t, s, root, remove("a"))
		} else {
			s = format(t, d, 100)
		}
		tick(t, s, 60)
	}
}

// P181: where there is no room it is ErrFull, on all calls from now on, and not there; what was there before is. Opened anew the store goes on.
func TestFull(t *testing.T) {
	for _, sectors := range []int{8, 20, 60, 100, 150, 200} {
		d, s := begin(t, sectors, 100)
		for i := 0; ; i++ {
			before := snapshot(s)
			r, err := s.Compound([]op{root, file("f" + strconv.Itoa(i)), write(0, noise(uint32(i), 512), state{})})
			if err == nil {
				continue
			}
			checkErr(t, err, api.ErrFull)
			if len(r) != 0 || 512*i > 64*sectors || lasting(t, d) != before || d.Waiting() != 0 {
				t.Fatalf("%d: %+v, %q", i, r, lasting(t, d))
			}
			written := contents(t, d)
			fallen(t, s, api.ErrFull)
			if !slices.Equal(contents(t, d), written) {
				t.Fatal("something was written")
			}
			break
		}
		o := open(t, d, 100)
		tick(t, o, 60)
		if n := o.Server().Tree().Nodes(); n > 1 {
			well(t, o, root, remove("f0"))
		}
		well(t, o, root, op{Kind: "list", B: 99})
		fallen(t, s, api.ErrFull)
		if lasting(t, d) != snapshot(o) {
			t.Fatal(lasting(t, d))
		}
	}
}

// P181: what only reads has room on a full disk, and needs no power.
func TestReadingIsNeverFull(t *testing.T) {
	d, s := begin(t, 8, 100)
	for i := 0; ; i++ {
		if _, err := s.Compound([]op{root, file("f" + strconv.Itoa(i))}); err != nil {
			checkErr(t, err, api.ErrFull)
			break
		}
	}
	s = open(t, d, 100)
	checkErr(t, d.Fail(0), nil)
	for range 3 {
		well(t, s, root, op{Kind: "list", B: 99})
	}
}
