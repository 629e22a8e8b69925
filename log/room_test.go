package log_test

import (
	"slices"
	"testing"

	"pigeonholes/api"
	"pigeonholes/log"
)

// Disks of these sizes have room for some records; a third of them is a whole number of bytes, or is not.
var sizes = []int{8, 9, 10, 11, 12, 13, 14, 15, 16, 17, 18, 30, 31, 32, 60, 100, 1000, 3998, 3999, api.MaxSectors}

// tooMuch: as many bytes as a disk has, or more.
func tooMuch(sectors int) []string { return []string{text(sectors * 64)} }

// P171: of one record so many bytes have room: with 64, 64 for this Add, and 16. Where there is no room nothing is done.
func TestRoomOfOne(t *testing.T) {
	for _, sectors := range sizes {
		bytes := most(sectors) - 64 - 64 - 16
		d, l := begin(t, sectors)
		before := contents(t, d)
		for _, more := range []int{0, 1, 2, 64, 10000} {
			checkErr(t, l.Add([]string{text(64*sectors + more)}), api.ErrFull)
			checkErr(t, l.Clear([]string{text(64*sectors + more)}), api.ErrFull)
		}
		if !slices.Equal(contents(t, d), before) || d.Waiting() != 0 {
			t.Errorf("%d: something was done", sectors)
		}
		checkErr(t, l.Add([]string{text(bytes)}), nil)
		has(t, d, text(bytes))
		checkErr(t, l.Add(tooMuch(sectors)), api.ErrFull)
		has(t, d, text(bytes))
	}
}

// P171: of a Clear, behind how many Adds ever, so many bytes have room: with 64, and 16.
func TestRoomOfClear(t *testing.T) {
	for _, sectors := range sizes {
		bytes := most(sectors) - 64 - 16
		d, l := begin(t, sectors)
		for range most(sectors)/64 - 1 {
			checkErr(t, l.Add(nil), nil)
		}
		checkErr(t, l.Clear(tooMuch(sectors)), api.ErrFull)
		has(t, d)
		checkErr(t, l.Clear([]string{text(bytes)}), nil)
		has(t, d, text(bytes))
		checkErr(t, l.Clear([]string{text(bytes)}), nil)
		checkErr(t, l.Clear(nil), nil)
		has(t, d)
		checkErr(t, l.Add([]string{text(bytes - 64)}), nil)
		has(t, d, text(bytes-64))
	}
}

// fill a log, until there is no room for one Add more.
func fill(t *testing.T, l *log.Log, records []string) int {
	t.Helper()
	for n := 0; ; n++ {
		if err := l.Add(records); err != nil {
			checkErr(t, err, api.ErrFull)
			return n
		}
	}
}

// P171: a Clear has its third, and Adds behind it, how full ever the log is: also where it took more than a third.
func TestRoomBesideAll(t *testing.T) {
	for _, sectors := range sizes[:16] {
		bytes := most(sectors) - 64 - 16
		for step := 1; step < 200; step += 7 {
			d, l := begin(t, sectors)
			for round := range 4 {
				fill(t, l, []string{text(step), ""})
				fill(t, l, nil)
				if round == 2 {
					for more := 64 * sectors; more > 0; more -= 64 {
						if l.Clear([]string{text(more)}) == nil {
							break
						}
					}
				}
				want := text(bytes - 64*(round%2))
				checkErr(t, l.Clear([]string{want}), nil)
				has(t, d, want)
				if round%2 == 1 {
					checkErr(t, l.Add(nil), nil)
				}
			}
		}
	}
}

// P171: Adds by themselves take 64 each at most; a Clear makes their room free, and so does Format.
func TestRoomOfAdds(t *testing.T) {
	for _, sectors := range sizes {
		d, l := begin(t, sectors)
		want := 0
		for isRoom(sectors, reckon(want+1, nil)) {
			want++
		}
		for round := range 4 {
			if n := fill(t, l, nil); n < want {
				t.Errorf("%d: %d; want %d", sectors, n, want)
			}
			if round%2 == 0 {
				checkErr(t, l.Clear(nil), nil)
			} else {
				l = format(t, d)
			}
		}
	}
}

// P171: so many records have room, of empty ones too, at once, and one by one.
func TestRoomOfMany(t *testing.T) {
	for _, sectors := range sizes {
		d, l := begin(t, sectors)
		var records []string
		for isRoom(sectors, reckon(1, append(records, ""))) {
			records = append(records, "")
		}
		checkErr(t, l.Add(records), nil)
		has(t, d, records...)
		checkErr(t, l.Clear(append(records, "", "", "", "")), nil)
		checkErr(t, l.Clear(slices.Repeat([]string{""}, 16*sectors)), api.ErrFull)
		has(t, d, append(records, "", "", "", "")...)
		checkErr(t, l.Clear(nil), nil)
		records = nil
		for isRoom(sectors, reckon(len(records)+1, append(records, "y"))) {
			checkErr(t, l.Add([]string{"y"}), nil)
			records = append(records, "y")
		}
		has(t, d, records...)
	}
}

// P171: wherever records are cut, all that have room are there: the filling of the last sectors takes none beyond it.
func TestRoomHowEverCut(t *testing.T) {
	for _, sectors := range sizes[:14] {
		for step := range 130 {
			d, l := begin(t, sectors)
			var want []string
			adds := 0
			for isRoom(sectors, reckon(adds+1, append(want, text(step)))) {
				checkErr(t, l.Add([]string{text(step)}), nil)
				want = append(want, text(step))
				adds++
			}
			if last := most(sectors) - reckon(adds+1, want) - 16; last >= 0 {
				checkErr(t, l.Add([]string{text(last)}), nil)
				want = append(want, text(last))
			}
			has(t, d, want...)
		}
	}
}

// P171: Adds that were done count on behind Open, whoever did them; those that were not, as there was no room, or no power, do not.
func TestRoomBehindOpen(t *testing.T) {
	for _, sectors := range sizes[:16] {
		_, l := begin(t, sectors)
		want := fill(t, l, nil)
		d, l := begin(t, sectors)
		for range want {
			checkErr(t, l.Add(tooMuch(sectors)), api.ErrFull)
			checkErr(t, d.Fail(1), nil)
			checkErr(t, l.Add(nil), api.ErrPower)
			d.Crash([]bool{true})
			l, _ = open(t, d)
			checkErr(t, l.Add(nil), nil)
			l, _ = open(t, d)
		}
		for range 3 {
			l, _ = open(t, d)
			checkErr(t, l.Add(nil), api.ErrFull)
		}
		checkErr(t, d.Fail(1), nil)
		checkErr(t, l.Clear(nil), api.ErrPower)
		d.Crash([]bool{true})
		l, _ = open(t, d)
		checkErr(t, l.Add(nil), api.ErrFull)
		checkErr(t, l.Clear(nil), nil)
	}
}
