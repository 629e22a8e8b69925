package disk_test

import (
	"math"
	"slices"
	"strings"
	"sync"
	"testing"

	"pigeonholes/api"
	"pigeonholes/disk"
)

// P160: a disk has from 1 to MaxSectors sectors, each of Sector bytes 0 at first, and nothing waits.
func TestNew(t *testing.T) {
	for _, sectors := range []int{1, 2, 3, 64, 1000, api.MaxSectors - 1, api.MaxSectors} {
		d := begin(t, sectors)
		if d.Sectors() != sectors {
			t.Errorf("%d sectors; want %d", d.Sectors(), sectors)
		}
		has(t, d, 0, make([]string, sectors)...)
		for _, n := range []int{-1, sectors, sectors + 1} {
			s, err := d.Read(n)
			checkErr(t, err, api.ErrBound)
			if s != "" {
				t.Errorf("%d: %q", n, s)
			}
		}
	}
}

// P160: other numbers are ErrBound, and there is no disk.
func TestNewBound(t *testing.T) {
	for _, sectors := range []int{0, -1, api.MaxSectors + 1, 1 << 32, 1<<32 + 1, math.MaxInt, math.MinInt} {
		d, err := disk.New(sectors)
		checkErr(t, err, api.ErrBound)
		if d != nil {
			t.Errorf("%d: a disk", sectors)
		}
	}
}

// P160: a sector becomes what is written, at once, with bytes 0 behind; nothing of what it was stays, and no other one changes.
func TestWrite(t *testing.T) {
	d := begin(t, 3)
	for i, s := range []string{"a", "", "ab", strings.Repeat("x", api.Sector), "b", strings.Repeat("y", api.Sector-1), "\x00", "\x00a", "a\x00", "\xff\xfe", "ä\n", strings.Repeat("\xff", api.Sector), strings.Repeat("\x00", api.Sector)} {
		checkErr(t, d.Write(1, s), nil)
		has(t, d, i+1, "", s, "")
	}
}

// P160: each sector is one of its own, the first and the last too.
func TestEachSector(t *testing.T) {
	d := begin(t, api.MaxSectors)
	want := make([]string, api.MaxSectors)
	for n := range want {
		want[n] = strings.Repeat(string(rune('a'+n%26)), n%(api.Sector+1))
		checkErr(t, d.Write(n, want[n]), nil)
	}
	has(t, d, api.MaxSectors, want...)
	flush(t, d)
	has(t, d, 0, want...)
	d.Crash(nil)
	has(t, d, 0, want...)
}

// P160: where there is no such sector it is ErrBound, ahead of ErrShape, and nothing changes.
func TestNoSector(t *testing.T) {
	d := begin(t, 3)
	put(t, d, "0a 1b 2c")
	for _, n := range noSectors {
		for _, s := range append([]string{"", "x"}, tooLong...) {
			checkErr(t, d.Write(n, s), api.ErrBound)
		}
		s, err := d.Read(n)
		checkErr(t, err, api.ErrBound)
		if s != "" {
			t.Errorf("%d: %q", n, s)
		}
		has(t, d, 3, "a", "b", "c")
	}
}

// P160: what is longer than a sector is ErrShape, and nothing changes, of the one behind it neither.
func TestTooLong(t *testing.T) {
	d := begin(t, 3)
	put(t, d, "0a 1b 2c")
	for _, s := range tooLong {
		for n := range 3 {
			checkErr(t, d.Write(n, s), api.ErrShape)
			has(t, d, 3, "a", "b", "c")
		}
	}
	checkErr(t, d.Write(2, strings.Repeat("x", api.Sector)), nil)
	has(t, d, 4, "a", "b", strings.Repeat("x", api.Sector))
}

// P160: what was flushed is there for ever: what was not is there for who reads, no longer.
func TestFlush(t *testing.T) {
	d := begin(t, 3)
	put(t, d, "0a 1b")
	flush(t, d)
	put(t, d, "1c 2d")
	has(t, d, 2, "a", "c", "d")
	d.Crash(nil)
	has(t, d, 0, "a", "b", "")
	d.Crash(nil)
	has(t, d, 0, "a", "b", "")
	put(t, d, "1e 2f")
	flush(t, d)
	flush(t, d)
	d.Crash(nil)
	has(t, d, 0, "a", "e", "f")
}

// P161: Waiting counts the writes behind the last Flush that were done, also of one sector, and of what was there already.
func TestWaiting(t *testing.T) {
	d := begin(t, 3)
	for i := range 500 {
		if d.Waiting() != i {
			t.Fatalf("%d wait; want %d", d.Waiting(), i)
		}
		checkErr(t, d.Write(-1, ""), api.ErrBound)
		checkErr(t, d.Write(0, tooLong[0]), api.ErrShape)
		_, err := d.Read(0)
		checkErr(t, err, nil)
		checkErr(t, d.Write(i/2%2, ""), nil)
	}
	flush(t, d)
	put(t, d, "0a")
	has(t, d, 1, "a", "", "")
	flush(t, d)
}

// P162: a copy has all: sectors, what waits, and the power.
func TestCopy(t *testing.T) {
	d := begin(t, 3)
	put(t, d, "0a 1b")
	flush(t, d)
	put(t, d, "0c 1d 0e")
	checkErr(t, d.Fail(2), nil)
	for _, keep := range []string{"", "y", "nyy", "yyy", "nny", "ynn"} {
		x, y := d.Copy().Copy(), d.Copy()
		has(t, x, 3, "e", "d", "")
		put(t, x, "2x 2y")
		checkErr(t, x.Flush(), api.ErrPower)
		checkErr(t, x.Write(2, "z"), api.ErrPower)
		has(t, x, 5, "e", "d", "y")
		want := []string{"a", "b", ""}
		for i, w := range []struct {
			n int
			s string
		}{{0, "c"}, {1, "d"}, {0, "e"}} {
			if i < len(keep) && keep[i] == 'y' {
				want[w.n] = w.s
			}
		}
		x.Crash(keeps(keep))
		has(t, x, 0, want...)
		y.Crash(keeps(keep))
		has(t, y, 0, want...)
		put(t, y, "0a 0b 0c 0d")
	}
	has(t, d, 3, "e", "d", "")
}

// P162: what happens to a copy does not show in what it is of, nor the other way round: no write, flush, failure or crash.
func TestCopyIsAlone(t *testing.T) {
	d := begin(t, 3)
	put(t, d, "0a 1b")
	flush(t, d)
	put(t, d, "0c 2d")
	x := d.Copy()
	put(t, x, "1x")
	put(t, d, "1y")
	has(t, x, 3, "c", "x", "d")
	has(t, d, 3, "c", "y", "d")
	y := d.Copy()
	checkErr(t, x.Fail(0), nil)
	put(t, d, "1z")
	checkErr(t, x.Write(0, "q"), api.ErrPower)
	flush(t, d)
	has(t, d, 0, "c", "z", "d")
	has(t, x, 3, "c", "x", "d")
	checkErr(t, d.Fail(0), nil)
	x.Crash(keeps("nny"))
	has(t, x, 0, "a", "x", "")
	checkErr(t, d.Flush(), api.ErrPower)
	d.Crash(nil)
	has(t, d, 0, "c", "z", "d")
	has(t, y, 3, "c", "y", "d")
	y.Crash(keeps("y"))
	has(t, y, 0, "c", "b", "")
}

// P162: what is written behind a copy waits in the one disk alone, however many waited ahead.
func TestCopyWaitsAlone(t *testing.T) {
	for count := range 40 {
		d := begin(t, 2)
		for range count {
			put(t, d, "0a")
		}
		x := d.Copy()
		put(t, x, "1x")
		put(t, d, "1y")
		keep := append(make([]bool, count), true)
		x.Crash(keep)
		has(t, x, 0, "", "x")
		d.Crash(keep)
		has(t, d, 0, "", "y")
	}
}

// P162: a copy of what was flushed, or crashed, has it for ever too.
func TestCopyLasts(t *testing.T) {
	d := begin(t, 2)
	put(t, d, "0a")
	flush(t, d)
	x := d.Copy()
	x.Crash(nil)
	has(t, x, 0, "a", "")
	put(t, d, "0b 1c")
	d.Crash(keeps("ny"))
	x = d.Copy()
	x.Crash(nil)
	has(t, x, 0, "a", "c")
	if x.Sectors() != 2 {
		t.Error(x.Sectors())
	}
	checkErr(t, x.Write(2, ""), api.ErrBound)
}

// P4: what is read is nobody else's, also when it is written again.
func TestReadIsNew(t *testing.T) {
	d := begin(t, 2)
	put(t, d, "0abc")
	s, err := d.Read(0)
	checkErr(t, err, nil)
	b := []byte(s)
	b[0] = 'x'
	put(t, d, "0def 1ghi")
	d.Crash(nil)
	if s != whole("abc") {
		t.Errorf("%q", s)
	}
	has(t, d, 0, "", "")
}

// P2: disks of their own, and copies of one, worked on side by side, do not see each other.
func TestSideBySide(t *testing.T) {
	first := begin(t, 9)
	put(t, first, "0a 8b")
	flush(t, first)
	put(t, first, "0c 8d")
	var group sync.WaitGroup
	for i := range 8 {
		d := first.Copy()
		group.Go(func() {
			for k := range 500 {
				if err := d.Fail(3); err != nil {
					t.Errorf("%d: %v", k, err)
				}
				s := strings.Repeat(string(rune('a'+i)), k%64)
				for _, err := range []error{d.Write(i, s), d.Flush(), d.Write(i, "lost")} {
					if err != nil {
						t.Errorf("%d: %v", k, err)
					}
				}
				if err := d.Flush(); err != api.ErrPower {
					t.Errorf("%d: %v", k, err)
				}
				d.Crash(nil)
				if got, err := d.Read(i); got != whole(s) || err != nil {
					t.Errorf("%d: %q, %v", k, got, err)
				}
			}
			if s, err := d.Read(8); s != whole("d") || err != nil {
				t.Errorf("%q, %v", s, err)
			}
		})
	}
	group.Wait()
	has(t, first, 2, "c", "", "", "", "", "", "", "", "d")
}

// What README.md says of a disk.
func TestReadme(t *testing.T) {
	d := begin(t, 100)
	checkErr(t, d.Write(0, "ab"), nil)
	s, err := d.Read(0)
	checkErr(t, err, nil)
	if s != whole("ab") {
		t.Errorf("%q", s)
	}
	checkErr(t, d.Flush(), nil)
	checkErr(t, d.Write(0, "cd"), nil)
	checkErr(t, d.Write(1, "ef"), nil)
	if d.Waiting() != 2 {
		t.Error(d.Waiting())
	}
	checkErr(t, d.Fail(1), nil)
	checkErr(t, d.Write(2, "gh"), nil)
	checkErr(t, d.Flush(), api.ErrPower)
	x := d.Copy()
	d.Crash([]bool{false, true})
	if l := all(t, d)[:3]; !slices.Equal(l, []string{whole("ab"), whole("ef"), whole("")}) {
		t.Errorf("%q", l)
	}
	if l := all(t, x)[:3]; !slices.Equal(l, []string{whole("cd"), whole("ef"), whole("gh")}) || x.Waiting() != 3 {
		t.Errorf("%q", l)
	}
}
