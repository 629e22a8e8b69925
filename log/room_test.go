package log_test

import (
	"slices"
	"testing"

	"pigeonholes/api"
)

// Disks of these sizes have room for some records; a third of them is a whole number of bytes, or is not.
var sizes = []int{8, 9, 10, 11, 12, 13, 14, 15, 16, 17, 18, 30, 31, 32, 60, 100, 1000, 3998, 3999, api.MaxSectors}

// P171: of one record just so many bytes have room: with 64, 64 for this Add, and 16.
func TestRoomOfOne(t *testing.T) {
	for _, sectors := range sizes {
		bytes := most(sectors) - 64 - 64 - 16
		d, l := begin(t, sectors)
		before := contents(t, d)
		for _, more := range []int{1, 2, 64, 10000} {
			checkErr(t, l.Add([]string{text(bytes + more)}), api.ErrFull)
		}
		if !slices.Equal(contents(t, d), before) || d.Waiting() != 0 {
			t.Errorf("%d: something was done", sectors)
		}
		checkErr(t, l.Add([]string{text(bytes)}), nil)
		has(t, d, text(bytes))
		checkErr(t, l.Add(nil), api.ErrFull)
		has(t, d, text(bytes))
	}
}

// P171: of a Clear, behind how many Adds ever, just so many bytes have room: with 64, and 16.
func TestRoomOfClear(t *testing.T) {
	for _, sectors := range sizes {
		bytes := most(sectors) - 64 - 16
		d, l := begin(t, sectors)
		for range most(sectors)/64 - 1 {
			checkErr(t, l.Add(nil), nil)
		}
		checkErr(t, l.Add(nil), api.ErrFull)
		for _, more := range []int{1, 2, 64, 10000} {
			checkErr(t, l.Clear([]string{text(bytes + more)}), api.ErrFull)
		}
		has(t, d)
		checkErr(t, l.Add(nil), api.ErrFull)
		checkErr(t, l.Clear([]string{text(bytes)}), nil)
		has(t, d, text(bytes))
		checkErr(t, l.Add(nil), api.ErrFull)
		checkErr(t, l.Clear([]string{text(bytes)}), nil)
		checkErr(t, l.Clear(nil), nil)
		has(t, d)
		checkErr(t, l.Add([]string{text(bytes - 64)}), nil)
		has(t, d, text(bytes-64))
	}
}

// P171: Adds by themselves take 64 each, those of nothing too; a Clear makes their room free, and so does Format.
func TestRoomOfAdds(t *testing.T) {
	for _, sectors := range sizes {
		d, l := begin(t, sectors)
		want := 0
		for isRoom(sectors, reckon(want+1, nil)) {
			want++
		}
		for round := range 4 {
			for range want {
				checkErr(t, l.Add(nil), nil)
			}
			checkErr(t, l.Add(nil), api.ErrFull)
			checkErr(t, l.Add([]string{""}), api.ErrFull)
			if round%2 == 0 {
				checkErr(t, l.Clear(nil), nil)
			} else {
				l = format(t, d)
			}
		}
	}
}

// P171: the 16 of each record count, of empty ones too: just so many of them have room, at once, and one by one.
func TestRoomOfMany(t *testing.T) {
	for _, sectors := range sizes {
		d, l := begin(t, sectors)
		var records []string
		for isRoom(sectors, reckon(1, append(records, ""))) {
			records = append(records, "")
		}
		checkErr(t, l.Add(append(records, "")), api.ErrFull)
		checkErr(t, l.Add(records), nil)
		has(t, d, records...)
		checkErr(t, l.Clear(append(records, "", "", "", "", "")), api.ErrFull)
		checkErr(t, l.Clear(append(records, "", "", "", "")), nil)
		checkErr(t, l.Clear(nil), nil)
		records = nil
		for isRoom(sectors, reckon(len(records)+1, append(records, "y"))) {
			checkErr(t, l.Add([]string{"y"}), nil)
			records = append(records, "y")
		}
		checkErr(t, l.Add([]string{"y"}), api.ErrFull)
		has(t, d, records...)
	}
}

// P171: wherever records are cut, all that have room are there: the filling of the last sectors takes none beyond it.
func TestRoomHowEverCut(t *testing.T) {
	for _, sectors := range sizes[:14] {
		for step := range 130 {
			d, l := begin(t, sectors)
			var want []string
			adds := 0
			for isRoom(sectors, reckon(adds+1, append(want, text(step)))) {
				checkErr(t, l.Add([]string{text(step)}), nil)
				want = append(want, text(step))
				adds++
			}
			last := most(sectors) - reckon(adds+1, want) - 16
			checkErr(t, l.Add([]string{text(max(last, 0) + 1)}), api.ErrFull)
			if last >= 0 {
				checkErr(t, l.Add([]string{text(last)}), nil)
				want = append(want, text(last))
			}
			has(t, d, want...)
		}
	}
}

// P171: Adds that were done count on behind Open, whoever did them; those that were not, as there was no room, or no power, do not.
func TestRoomBehindOpen(t *testing.T) {
	for _, sectors := range sizes {
		d, l := begin(t, sectors)
		adds := 0
		for isRoom(sectors, reckon(adds+1, nil)) {
			checkErr(t, l.Add([]string{text(100000)}), api.ErrFull)
			checkErr(t, d.Fail(1), nil)
			checkErr(t, l.Add(nil), api.ErrPower)
			d.Crash([]bool{true})
			l, _ = open(t, d)
			checkErr(t, l.Add(nil), nil)
			l, _ = open(t, d)
			adds++
		}
		for range 3 {
			l, _ = open(t, d)
			checkErr(t, l.Add(nil), api.ErrFull)
		}
		checkErr(t, d.Fail(1), nil)
		checkErr(t, l.Clear(nil), api.ErrPower)
		d.Crash([]bool{true})
		l, _ = open(t, d)
		checkErr(t, l.Add(nil), api.ErrFull)
		checkErr(t, l.Clear(nil), nil)
		l, _ = open(t, d)
		for range adds {
			checkErr(t, l.Add(nil), nil)
		}
		checkErr(t, l.Add(nil), api.ErrFull)
	}
}
