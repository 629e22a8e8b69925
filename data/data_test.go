package data_test

import (
	"errors"
	"math"
	"slices"
	"strings"
	"sync"
	"testing"

	"pigeonholes/api"
	"pigeonholes/data"
	"pigeonholes/plain"
)

// What the package exports, as it was given.
var (
	_ func(*data.Data, int, string) error              = (*data.Data).Write
	_ func(*data.Data, int, int) (string, bool, error) = (*data.Data).Read
	_ func(*data.Data, int) error                      = (*data.Data).Resize
	_ func(*data.Data) int                             = (*data.Data).Size
	_ func(*data.Data) int                             = (*data.Data).Blocks
	_ func(*data.Data) *data.Data                      = (*data.Data).Copy
)

// zeros are so many bytes 0.
func zeros(n int) string { return strings.Repeat("\x00", n) }

// uneven are so many bytes, none 0, that are not the same from block to block.
func uneven(n int) string {
	b := make([]byte, n)
	for i := range b {
		b[i] = byte(i%251 + 1)
	}
	return string(b)
}

// check what there is of data, by all that can be asked.
func check(t *testing.T, d *data.Data, want string, blocks int) {
	t.Helper()
	if d.Size() != len(want) || d.Blocks() != blocks {
		t.Errorf("%d bytes, %d blocks; want %d, %d", d.Size(), d.Blocks(), len(want), blocks)
	}
	for _, n := range []int{len(want), len(want) + 1, api.MaxFile, math.MaxInt} {
		if s, end, err := d.Read(0, n); s != want || !end || err != nil {
			t.Errorf("%d bytes: %q, %v, %v; want %q", n, s, end, err, want)
		}
	}
}

// write must go well.
func write(t *testing.T, d *data.Data, at int, s string) {
	t.Helper()
	if err := d.Write(at, s); err != nil {
		t.Fatalf("%d bytes at %d: %v", len(s), at, err)
	}
}

// resize must go well.
func resize(t *testing.T, d *data.Data, n int) {
	t.Helper()
	if err := d.Resize(n); err != nil {
		t.Fatalf("to %d: %v", n, err)
	}
}

// checkBound: the error itself, without a place. It stops the test: what is too big would be read for long.
func checkBound(t *testing.T, err error) {
	t.Helper()
	var fault *api.Fault
	if err != api.ErrBound || errors.As(err, &fault) {
		t.Fatalf("%v; want %v", err, api.ErrBound)
	}
	if code, at := plain.Code(err); code != 2 || at != -1 {
		t.Errorf("%v: %d at %d", err, code, at)
	}
}

// P40: the zero value has no bytes, and can do all.
func TestZeroValue(t *testing.T) {
	check(t, &data.Data{}, "", 0)
	check(t, (&data.Data{}).Copy(), "", 0)
	for _, at := range []int{0, 1, 64, api.MaxFile, api.MaxFile + 1, math.MaxInt} {
		for _, n := range []int{0, 1, 64, api.MaxFile, math.MaxInt} {
			if s, end, err := (&data.Data{}).Read(at, n); s != "" || !end || err != nil {
				t.Errorf("%d at %d: %q, %v, %v", n, at, s, end, err)
			}
		}
	}
	d := &data.Data{}
	resize(t, d, 0)
	check(t, d, "", 0)
	resize(t, d, 100)
	check(t, d, zeros(100), 0)
	write(t, d, 3, "abc")
	check(t, d, zeros(3)+"abc"+zeros(94), 1)
}

// P40: the document's example.
func TestOneByteAt100(t *testing.T) {
	d := &data.Data{}
	write(t, d, 100, "x")
	check(t, d, zeros(100)+"x", 1)
}

// P40: bytes are written over, and go on behind the end.
func TestWriteOver(t *testing.T) {
	d := &data.Data{}
	for _, c := range []struct {
		at     int
		s      string
		want   string
		blocks int
	}{
		{0, "hello", "hello", 1},
		{0, "J", "Jello", 1},
		{4, "y!", "Jelly!", 1},
		{6, "?", "Jelly!?", 1},
		{1, "\x00", "J\x00lly!?", 1},
		{9, "\xff", "J\x00lly!?\x00\x00\xff", 1},
		{0, "abcdefghij", "abcdefghij", 1},
		{63, "yz", "abcdefghij" + zeros(53) + "yz", 2},
		{200, "k", "abcdefghij" + zeros(53) + "yz" + zeros(135) + "k", 3},
		{128, "\x00", "abcdefghij" + zeros(53) + "yz" + zeros(135) + "k", 4},
	} {
		write(t, d, c.at, c.s)
		check(t, d, c.want, c.blocks)
	}
}

// P40: from each place, so many bytes: those alone, and just the blocks that they lie in.
func TestWriteAtBlocks(t *testing.T) {
	for _, at := range []int{0, 1, 62, 63, 64, 65, 127, 128, 129, 4031, 4032} {
		for _, n := range []int{1, 2, 63, 64, 65, 127, 128, 129, 4096} {
			if at+n > api.MaxFile {
				continue
			}
			s := uneven(n)
			d := &data.Data{}
			write(t, d, at, s)
			blocks := (at+n-1)/api.Block - at/api.Block + 1
			check(t, d, zeros(at)+s, blocks)

			whole := strings.Repeat("#", api.MaxFile)
			write(t, d, 0, whole)
			write(t, d, at, s)
			check(t, d, whole[:at]+s+whole[at+n:], 64)
		}
	}
}

// P40: of no bytes nothing happens; and behind MaxFile that is an error, too.
func TestWriteNothing(t *testing.T) {
	for _, d := range some(t) {
		size, blocks := d.Size(), d.Blocks()
		s, _, _ := d.Read(0, size)
		for _, at := range []int{0, 1, 63, 64, size, size + 1, 4095, 4096} {
			if at > api.MaxFile {
				continue
			}
			write(t, d, at, "")
			check(t, d, s, blocks)
		}
		for _, at := range []int{-1, math.MinInt, 4097, math.MaxInt} {
			checkBound(t, d.Write(at, ""))
			check(t, d, s, blocks)
		}
	}
}

// some data: none, a hole, a byte, blocks with holes between, and all that there can be.
func some(t *testing.T) []*data.Data {
	t.Helper()
	var l []*data.Data
	for _, c := range []struct {
		size, at int
		s        string
	}{{0, 0, ""}, {77, 0, ""}, {0, 0, "x"}, {0, 100, "x"}, {1000, 300, uneven(200)}, {0, 0, uneven(api.MaxFile)}, {api.MaxFile, 0, ""}} {
		d := &data.Data{}
		resize(t, d, c.size)
		write(t, d, c.at, c.s)
		l = append(l, d)
	}
	return l
}

// P40: what is not from 0 to MaxFile is ErrBound; P3: it changes nothing.
func TestWriteBounds(t *testing.T) {
	for _, d := range some(t) {
		s, _, _ := d.Read(0, api.MaxFile)
		blocks := d.Blocks()
		for _, c := range []struct{ at, n int }{
			{-1, 1}, {-1, 2}, {-64, 64}, {-4096, 4096}, {math.MinInt, 1}, {math.MinInt, 4097}, {math.MinInt + 1, 1},
			{4096, 1}, {4095, 2}, {4097, 1}, {0, 4097}, {1, 4096}, {4000, 97}, {0, 100000}, {1 << 32, 1}, {1<<32 + 4, 1},
			{math.MaxInt, 1}, {math.MaxInt, 4097}, {math.MaxInt - 1, 2}, {math.MaxInt - 4095, 4096},
		} {
			checkBound(t, d.Write(c.at, strings.Repeat("!", c.n)))
			check(t, d, s, blocks)
		}
	}
	for _, c := range []struct{ at, n int }{{4095, 1}, {4094, 2}, {0, 4096}, {1, 4095}, {4000, 96}} {
		d := &data.Data{}
		write(t, d, c.at, uneven(c.n))
		check(t, d, zeros(c.at)+uneven(c.n), 64-c.at/64)
	}
}

// P40: n bytes, or as many as there are; the end is there with the last one, or where there are none.
func TestRead(t *testing.T) {
	for _, d := range some(t) {
		whole, _, _ := d.Read(0, api.MaxFile)
		size := len(whole)
		for _, at := range []int{0, 1, 63, 64, 65, 100, 299, 300, 499, size - 65, size - 64, size - 2, size - 1, size, size + 1, 4095, 4096, 4097, 1 << 32, math.MaxInt - 1, math.MaxInt} {
			for _, n := range []int{0, 1, 2, 3, 62, 63, 64, 65, 128, 200, size - at - 1, size - at, size - at + 1, size, 4096, 4097, 1 << 32, math.MaxInt - 1, math.MaxInt} {
				if at < 0 || n < 0 {
					continue
				}
				want, last := "", true
				if at < size {
					want = whole[at:]
					last = n >= len(want)
					want = want[:min(n, len(want))]
				}
				if s, end, err := d.Read(at, n); s != want || end != last || err != nil {
					t.Errorf("%d of %d at %d: %q, %v, %v; want %q, %v", n, size, at, s, end, err, want, last)
				}
			}
		}
	}
}

// P40: the end, where no bytes are asked for.
func TestReadNothing(t *testing.T) {
	d := &data.Data{}
	write(t, d, 0, "abc")
	for at, want := range []bool{false, false, false, true, true} {
		if s, end, err := d.Read(at, 0); s != "" || end != want || err != nil {
			t.Errorf("at %d: %q, %v, %v", at, s, end, err)
		}
	}
}

// P40: at or n below 0 is ErrBound, with nothing beside it (P3), also where there is nothing to read.
func TestReadBounds(t *testing.T) {
	for _, d := range some(t) {
		for _, c := range []struct{ at, n int }{
			{-1, 0}, {-1, 1}, {-1, 5000}, {0, -1}, {1, -1}, {5000, -1}, {-1, -1}, {-64, 64},
			{math.MinInt, 1}, {0, math.MinInt}, {math.MinInt, math.MaxInt}, {math.MaxInt, math.MinInt}, {math.MinInt, math.MinInt},
		} {
			s, end, err := d.Read(c.at, c.n)
			if s != "" || end {
				t.Errorf("%v: %q, %v beside an error", c, s, end)
			}
			checkBound(t, err)
		}
	}
}

// P41: what is behind goes, what is new is 0: what was cut off does not come back.
func TestResize(t *testing.T) {
	for _, n := range []int{0, 1, 2, 62, 63, 64, 65, 127, 128, 129, 191, 192, 193, 255, 256, 257, 300} {
		for _, more := range []int{301, 320, 321, 1000, api.MaxFile} {
			s := uneven(300)
			d := &data.Data{}
			write(t, d, 0, s)
			resize(t, d, n)
			blocks := (n + api.Block - 1) / api.Block
			check(t, d, s[:n], blocks)
			resize(t, d, more)
			check(t, d, s[:n]+zeros(more-n), blocks)
			resize(t, d, n)
			check(t, d, s[:n], blocks)
			write(t, d, more-1, "x")
			if (more-1)/api.Block >= blocks {
				blocks++
			}
			check(t, d, s[:n]+zeros(more-1-n)+"x", blocks)
		}
	}
}

// P41: a write behind the end finds bytes 0 where something was cut off.
func TestWriteBehindWhatWasCut(t *testing.T) {
	d := &data.Data{}
	write(t, d, 0, uneven(64))
	resize(t, d, 10)
	write(t, d, 20, "x")
	check(t, d, uneven(10)+zeros(10)+"x", 1)
}

// P41: not from 0 to MaxFile is ErrBound; P3: it changes nothing.
func TestResizeBounds(t *testing.T) {
	for _, d := range some(t) {
		s, _, _ := d.Read(0, api.MaxFile)
		blocks := d.Blocks()
		for _, n := range []int{-1, -64, math.MinInt, 4097, 5000, 1 << 32, math.MaxInt} {
			checkBound(t, d.Resize(n))
			check(t, d, s, blocks)
		}
		resize(t, d, d.Size())
		check(t, d, s, blocks)
		resize(t, d, api.MaxFile)
		check(t, d, s+zeros(api.MaxFile-len(s)), blocks)
		resize(t, d, 0)
		check(t, d, "", 0)
	}
}

// P41: a block is no hole from when something is written in it, bytes 0 too, until all of it lies behind the end.
func TestHoles(t *testing.T) {
	d := &data.Data{}
	steps := []struct {
		name   string
		do     func()
		blocks int
	}{
		{"growing writes nothing", func() { resize(t, d, 640) }, 0},
		{"bytes 0", func() { write(t, d, 130, "\x00") }, 1},
		{"the same block", func() { write(t, d, 191, "a") }, 1},
		{"a block of bytes 0", func() { write(t, d, 256, zeros(64)) }, 2},
		{"over an edge", func() { write(t, d, 319, "ab") }, 3},
		{"far behind, holes between", func() { write(t, d, 4095, "z") }, 4},
		{"no bytes", func() { write(t, d, 700, "") }, 4},
		{"the last block goes", func() { resize(t, d, 4032) }, 3},
		{"and does not come back", func() { resize(t, d, 4096) }, 3},
		{"a byte of a block is left", func() { resize(t, d, 321) }, 3},
		{"no byte is left", func() { resize(t, d, 320) }, 2},
		{"of a block, ahead of what was written in it", func() { resize(t, d, 129) }, 1},
		{"growing again", func() { resize(t, d, 4096) }, 1},
		{"what went is a hole, until it is written", func() { write(t, d, 260, "x") }, 2},
		{"the end ahead of it", func() { resize(t, d, 128) }, 0},
		{"all holes", func() { resize(t, d, 4096) }, 0},
		{"all of it", func() { write(t, d, 0, zeros(4096)) }, 64},
		{"nothing", func() { resize(t, d, 0) }, 0},
		{"from nothing", func() { write(t, d, 64, "x") }, 1},
	}
	for _, step := range steps {
		if step.do(); d.Blocks() != step.blocks {
			t.Errorf("%s: %d blocks; want %d", step.name, d.Blocks(), step.blocks)
		}
	}
}

// P41: which blocks are no holes: rising, in new memory.
func TestWritten(t *testing.T) {
	d := &data.Data{}
	if l := d.Written(); len(l) != 0 {
		t.Error(l)
	}
	for _, at := range []int{4095, 640, 0, 700, 64} {
		write(t, d, at, "\x00")
	}
	for range 2 {
		l := d.Written()
		if !slices.Equal(l, []int{0, 1, 10, 63}) {
			t.Error(l)
		}
		clear(l)
	}
	resize(t, d, 641)
	resize(t, d, 4096)
	if l := d.Written(); !slices.Equal(l, []int{0, 1, 10}) {
		t.Error(l)
	}
}

// P41, P4: a copy goes its own way, and what it is a copy of goes its own.
func TestCopy(t *testing.T) {
	changes := map[string]func(d *data.Data){
		"write over":   func(d *data.Data) { write(t, d, 0, "!!") },
		"write behind": func(d *data.Data) { write(t, d, 4000, "!!") },
		"shrink":       func(d *data.Data) { resize(t, d, d.Size()/2) },
		"to nothing":   func(d *data.Data) { resize(t, d, 0) },
		"grow":         func(d *data.Data) { resize(t, d, api.MaxFile) },
	}
	for name, change := range changes {
		for i, d := range some(t) {
			s, _, _ := d.Read(0, api.MaxFile)
			blocks := d.Blocks()
			x, y := d.Copy(), d.Copy()
			change(d)
			check(t, x, s, blocks)
			change(x)
			check(t, y, s, blocks)
			want, _, _ := d.Read(0, api.MaxFile)
			check(t, x, want, d.Blocks())
			if t.Failed() {
				t.Fatal(name, i)
			}
		}
	}
}

// P4: what was read stays as it was when it was read.
func TestReadIsNewMemory(t *testing.T) {
	d := &data.Data{}
	write(t, d, 0, uneven(200))
	s, _, _ := d.Read(0, 200)
	write(t, d, 0, strings.Repeat("!", 200))
	resize(t, d, 0)
	if s != uneven(200) {
		t.Errorf("%q", s)
	}
}

// P2: data of their own, worked on side by side, do not see each other.
func TestSideBySide(t *testing.T) {
	var group sync.WaitGroup
	for i := range 8 {
		group.Go(func() {
			d, fill := &data.Data{}, string([]byte{byte('a' + i)})
			for n := range 200 {
				if err := d.Write(n*16, strings.Repeat(fill, 16)); err != nil {
					t.Error(err)
				}
			}
			if s, end, err := d.Read(0, api.MaxFile); s != strings.Repeat(fill, 3200) || !end || err != nil {
				t.Errorf("%s: %d bytes, %v, %v", fill, len(s), end, err)
			}
		})
	}
	group.Wait()
}
