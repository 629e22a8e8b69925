package disk_test

import (
	"maps"
	"math/rand"
	"slices"
	"strings"
	"testing"

	"pigeonholes/api"
	"pigeonholes/disk"
)

// book is a disk as P160 and P161 have it: what lasts, and a list of what was written since, from which what is read is made each time: otherwise than a disk does it.
type book struct {
	sectors int
	lasting map[int]string
	since   []entry
	left    []int // empty: nothing fails; else how many more go well
}

type entry struct {
	n int
	s string
}

// act of a book: is there power for it?
func (b *book) act() error {
	if len(b.left) == 1 && b.left[0] == 0 {
		return api.ErrPower
	}
	for i := range b.left {
		b.left[i]--
	}
	return nil
}

func (b *book) write(n int, s string) error {
	switch {
	case n < 0 || n >= b.sectors:
		return api.ErrBound
	case len(s) > api.Sector:
		return api.ErrShape
	}
	err := b.act()
	if err == nil {
		b.since = append(b.since, entry{n, s})
	}
	return err
}

// last makes these last.
func (b *book) last(l []entry) {
	for _, e := range l {
		b.lasting[e.n] = e.s
	}
	b.since = nil
}

func (b *book) flush() error {
	err := b.act()
	if err == nil {
		b.last(b.since)
	}
	return err
}

func (b *book) fail(after int) error {
	if after < 0 {
		return api.ErrBound
	}
	b.left = []int{after}
	return nil
}

func (b *book) crash(keep []bool) {
	var l []entry
	for i := range min(len(keep), len(b.since)) {
		if keep[i] {
			l = append(l, b.since[i])
		}
	}
	b.last(l)
	b.left = nil
}

func (b *book) copy() *book {
	return &book{b.sectors, maps.Clone(b.lasting), slices.Clone(b.since), slices.Clone(b.left)}
}

// read: the last that was written there, or what lasts.
func (b *book) read(n int) string {
	s := b.lasting[n]
	for _, e := range b.since {
		if e.n == n {
			s = e.s
		}
	}
	return s
}

// compare all that both tell.
func compare(t *testing.T, d *disk.Disk, b *book) {
	t.Helper()
	var want []string
	for n := range b.sectors {
		want = append(want, b.read(n))
	}
	has(t, d, len(b.since), want...)
}

// pair of a disk and its book.
type pair struct {
	d *disk.Disk
	b *book
}

func beginPair(t *testing.T, sectors int) pair {
	return pair{begin(t, sectors), &book{sectors: sectors, lasting: map[int]string{}}}
}

// call is one of a disk's methods, and what it is given.
type call struct {
	what, n int
	s       string
	keep    []bool
}

// step does one call to both, tells its error, and with which pair it goes on: behind a copy, with that.
func (p pair) step(t *testing.T, c call) (pair, error) {
	t.Helper()
	var err, want error
	next := p
	switch c.what % 10 {
	case 0, 1, 2, 3, 4:
		err, want = p.d.Write(c.n, c.s), p.b.write(c.n, c.s)
	case 5, 6:
		err, want = p.d.Flush(), p.b.flush()
	case 7:
		err, want = p.d.Fail(c.n), p.b.fail(c.n)
	case 8:
		p.d.Crash(c.keep)
		p.b.crash(c.keep)
	case 9:
		next = pair{p.d.Copy(), p.b.copy()}
	}
	if err != want {
		t.Fatalf("%+v: %v; want %v", c, err, want)
	}
	compare(t, p.d, p.b)
	compare(t, next.d, next.b)
	return next, err
}

// P160 to P163: after any calls a disk is as the book has it, and so is each of which a copy was made on the way.
func TestAsItsBook(t *testing.T) {
	met := map[error]int{}
	kept, lost := 0, 0
	for seed := range int64(300) {
		r := rand.New(rand.NewSource(seed))
		p := beginPair(t, 1+r.Intn(6))
		var before []pair
		for range 150 {
			c := call{what: r.Intn(10), n: r.Intn(p.b.sectors), s: strings.Repeat(string(rune('a'+r.Intn(26))), r.Intn(api.Sector+1))}
			switch r.Intn(20) {
			case 0:
				c.n = -1
			case 1:
				c.n = p.b.sectors
			case 2:
				c.s = tooLong[r.Intn(len(tooLong))]
			}
			if c.what == 8 {
				for i := range r.Intn(len(p.b.since) + 3) {
					c.keep = append(c.keep, r.Intn(2) == 0)
					if i < len(p.b.since) {
						kept, lost = kept+btoi(c.keep[i]), lost+btoi(!c.keep[i])
					}
				}
			}
			next, err := p.step(t, c)
			if next != p {
				before = append(before, p)
			}
			p = next
			met[err]++
		}
		for _, x := range before {
			compare(t, x.d, x.b)
		}
	}
	for _, err := range []error{nil, api.ErrBound, api.ErrShape, api.ErrPower} {
		if met[err] < 100 {
			t.Errorf("%v was met %d times", err, met[err])
		}
	}
	if kept < 1000 || lost < 1000 {
		t.Errorf("%d writes were kept, %d lost", kept, lost)
	}
}

// btoi: how many that is.
func btoi(b bool) int {
	if b {
		return 1
	}
	return 0
}

// P163: a sector that was flushed, and not written since, is never lost; one that was written since is as it was flushed, or as one of those writes made it.
func TestNothingElse(t *testing.T) {
	untouched := 0
	for seed := range int64(200) {
		r := rand.New(rand.NewSource(seed))
		d := begin(t, 8)
		for n := range 8 {
			checkErr(t, d.Write(n, string(rune('a'+r.Intn(26)))), nil)
		}
		flush(t, d)
		for range 20 {
			flushed := all(t, d)
			checkErr(t, d.Fail(r.Intn(10)), nil)
			may := make([][]string, 8)
			for range 12 {
				n, s := r.Intn(8), string(rune('a'+r.Intn(26)))
				if d.Write(n, s) == nil {
					may[n] = append(may[n], whole(s))
				}
			}
			keep := make([]bool, r.Intn(14))
			for i := range keep {
				keep[i] = r.Intn(2) == 0
			}
			d.Crash(keep)
			for n, s := range all(t, d) {
				if s != flushed[n] && !slices.Contains(may[n], s) {
					t.Fatalf("sector %d: %q was flushed, %q were written; it is %q", n, flushed[n], may[n], s)
				}
				untouched += btoi(len(may[n]) == 0)
			}
		}
	}
	if untouched < 1000 {
		t.Errorf("%d were not written", untouched)
	}
}

// FuzzDisk takes three bytes for each call: what it is, which number, and how long a text, or what is kept.
func FuzzDisk(f *testing.F) {
	for _, s := range []string{"", "\x00\x00\x01\x01\x01\x02\x05\x00\x00\x02\x00\x40\x03\x01\x41\x08\x03\x01", "\x00\x00\x05\x07\x01\x00\x01\x01\x09\x05\x00\x00\x09\x00\x00\x08\x02\x03", "\x00\xff\x01\x00\x04\x01\x07\xff\x00\x07\x00\x00\x05\x00\x00\x08\x00\x00\x05\x00\x00"} {
		f.Add(s)
	}
	f.Fuzz(func(t *testing.T, s string) {
		p := beginPair(t, 4)
		for i := 0; len(s) >= 3 && i < 200; i++ {
			c := call{what: int(s[0]), n: int(int8(s[1])), s: strings.Repeat(string(rune('a'+i%26)), int(s[2])%(api.Sector+2))}
			for k := range int(s[1]) % 16 {
				c.keep = append(c.keep, s[2]>>(k%8)&1 == 1)
			}
			p, _ = p.step(t, c)
			s = s[3:]
		}
	})
}
