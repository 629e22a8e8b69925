package log

import (
	"slices"
	"testing"

	"pigeonholes/api"
	"pigeonholes/disk"
)

// P171: the number of calls goes round: a log goes on beyond the greatest.
func TestCallsGoRound(t *testing.T) {
	for _, calls := range []uint32{1<<32 - 3, 1<<32 - 2, 1<<32 - 1, 1<<31 - 2, 1<<31 - 1, 1 << 31} {
		d, err := disk.New(100)
		if err != nil {
			t.Fatal(err)
		}
		if err := (head{calls: calls}).save(d); err != nil {
			t.Fatal(err)
		}
		var want []string
		for _, s := range []string{"a", "b", "c", "d", "e"} {
			l, got, err := Open(d)
			if err != nil || !slices.Equal(got, want) {
				t.Fatalf("%d: %q, %v; want %q", calls, got, err, want)
			}
			if err := l.Add([]string{s}); err != nil {
				t.Fatal(err)
			}
			want = append(want, s)
		}
		if _, err := Format(d); err != nil {
			t.Fatal(err)
		}
		if _, got, err := Open(d); err != nil || len(got) != 0 {
			t.Fatalf("%d: %q, %v", calls, got, err)
		}
	}
}

// P170: a head that does not go with its disk, or stands where none of its number does, is none.
func TestNoHead(t *testing.T) {
	for _, x := range []struct {
		h    head
		slot int
		is   bool
	}{
		{head{calls: 1}, 1, true},
		{head{calls: 2}, 0, true},
		{head{calls: 1, half: 1, used: 1}, 1, true},
		{head{calls: 1, half: 1, used: 29}, 1, true},
		{head{calls: 1}, 0, false},
		{head{calls: 2}, 1, false},
		{head{calls: 1, half: 2}, 1, false},
		{head{calls: 1, half: 1<<32 - 1}, 1, false},
		{head{calls: 1, used: 30}, 1, false},
		{head{calls: 1, half: 1, used: 30}, 1, false},
		{head{calls: 1, used: 1<<32 - 1}, 1, false},
	} {
		d, err := disk.New(60)
		if err != nil {
			t.Fatal(err)
		}
		h := x.h
		if err := d.Write(x.slot, mark+word(int(h.calls))+word(h.half)+word(h.used)); err != nil {
			t.Fatal(err)
		}
		if got, is := newest(d); is != x.is || is && got != h || !is && got != (head{}) {
			t.Errorf("%+v in %d: %+v, %v", h, x.slot, got, is)
		}
	}
}

// P170: a disk on which there is no room for a log has none, whatever it says.
func TestNoHeadOfFewSectors(t *testing.T) {
	for sectors := 1; sectors < 9; sectors++ {
		d, err := disk.New(sectors)
		if err != nil {
			t.Fatal(err)
		}
		if err := (head{calls: 2}).save(d); err != nil {
			t.Fatal(err)
		}
		if _, is := newest(d); is != (sectors == 8) {
			t.Errorf("%d sectors: %v", sectors, is)
		}
	}
}

// P171: there is room for as many sectors as a half has, whatever is in the other one: never for less than a third of the disk.
func TestRoomInSectors(t *testing.T) {
	for sectors := least; sectors < 70; sectors++ {
		d, err := disk.New(sectors)
		if err != nil {
			t.Fatal(err)
		}
		l, err := Format(d)
		if err != nil {
			t.Fatal(err)
		}
		most := half(d)
		if 3*(most+1) <= sectors || heads+2*most > sectors {
			t.Fatalf("%d sectors: %d have room", sectors, most)
		}
		for used := 1; used <= most; used++ {
			if l.Clear(taking(most+1)) != api.ErrFull || l.Clear(taking(used)) != nil || l.Add(taking(most-used+1)) != api.ErrFull || used < most && l.Add(taking(most-used)) != nil || l.Add(nil) != api.ErrFull {
				t.Fatalf("%d sectors, %d used", sectors, used)
			}
		}
	}
}

// taking so many sectors.
func taking(n int) []string { return []string{string(make([]byte, n*api.Sector-2*wordSize))} }

// P170: what is no block, or not whole, is not read.
func TestNoBlocks(t *testing.T) {
	fill := func(s string) string { return s + string(make([]byte, 64-len(s)%64)) }
	for _, s := range []string{
		fill(word(1<<32 - 1)),
		fill(word(16)),
		fill(word(1) + word(57)),
		fill(word(1) + word(1<<32-1)),
		fill(word(2) + word(1) + "a" + word(56)),
		fill(word(0)) + fill(word(1)+word(57)),
	} {
		if l, is := readBlocks(s); is || l != nil {
			t.Errorf("%q: %q", s, l)
		}
	}
	for _, want := range [][]string{nil, {""}, {"a", ""}, make([]string, 15)} {
		s := fill(block(want))[:64]
		if l, is := readBlocks(s + s); !is || !slices.Equal(l, slices.Concat(want, want)) {
			t.Errorf("%q: %q, %v", s, l, is)
		}
	}
}
