package log_test

import (
	"slices"
	"strconv"
	"strings"
	"sync"
	"testing"

	"pigeonholes/api"
	"pigeonholes/disk"
	"pigeonholes/log"
)

// Records of all kinds.
var kinds = []string{"a", "", "\x00", "ab\x00", "\x00\x00\x00\x01", "pigeonholes log\n", "\xff\xfe", "ä\n", text(63), text(64), text(65), strings.Repeat("\x00", 200), strings.Repeat("\xff", 64), text(1000), ""}

// P170: a log that was formatted has no records, on the least disk too.
func TestFormat(t *testing.T) {
	for _, sectors := range []int{8, 9, 10, 11, 12, 60, 100, 3999, api.MaxSectors} {
		d, l := begin(t, sectors)
		has(t, d)
		checkErr(t, l.Add([]string{"a"}), nil)
		has(t, d, "a")
	}
}

// P170: with fewer than 8 sectors there is no log, and nothing is done; power is not asked for.
func TestFormatFull(t *testing.T) {
	for sectors := 1; sectors < 8; sectors++ {
		d := blank(t, sectors)
		checkErr(t, d.Write(0, "a"), nil)
		checkErr(t, d.Fail(0), nil)
		before := contents(t, d)
		l, err := log.Format(d)
		checkErr(t, err, api.ErrFull)
		if l != nil {
			t.Errorf("%d: a log", sectors)
		}
		if !slices.Equal(contents(t, d), before) || d.Waiting() != 1 {
			t.Errorf("%d: %q", sectors, contents(t, d))
		}
		noLog(t, d)
	}
	l, err := log.Format(&disk.Disk{})
	checkErr(t, err, api.ErrFull)
	if l != nil {
		t.Error("a log")
	}
	noLog(t, &disk.Disk{})
}

// P170: without power there is no log.
func TestFormatPower(t *testing.T) {
	d := blank(t, 60)
	checkErr(t, d.Fail(0), nil)
	for range 3 {
		l, err := log.Format(d)
		checkErr(t, err, api.ErrPower)
		if l != nil {
			t.Error("a log")
		}
		noLog(t, d)
	}
	d.Crash(nil)
	noLog(t, d)
	format(t, d)
	has(t, d)
}

// P170: what was on the disk is gone: another log, how ever many calls it counted, and all else.
func TestFormatAnew(t *testing.T) {
	for calls := range 6 {
		d, l := begin(t, 60)
		checkErr(t, d.Write(59, "secret"), nil)
		for i := range calls {
			checkErr(t, l.Add([]string{"secret", strconv.Itoa(i)}), nil)
			if i == 3 {
				checkErr(t, l.Clear([]string{"secret", "other"}), nil)
			}
		}
		l = format(t, d)
		has(t, d)
		d.Crash(nil)
		for n, s := range contents(t, d) {
			if strings.Contains(s, "secret") {
				t.Errorf("%d calls: sector %d: %q", calls, n, s)
			}
		}
		checkErr(t, l.Add([]string{"a"}), nil)
		has(t, d, "a")
		format(t, d)
		format(t, d)
		has(t, d)
	}
}

// P170: where anything else is on a disk, there is no log; it can be formatted all the same.
func TestNoLog(t *testing.T) {
	noLog(t, blank(t, 1))
	for _, s := range []string{"", "\x01", "a", text(64), strings.Repeat("\xff", 64), "pigeonholes", "pigeonholes log", "pigeonholes log\n" + strings.Repeat("\xff", 48), "pigeonholes log\n" + strings.Repeat("\x01", 48)} {
		d := blank(t, 60)
		for n := range 60 {
			checkErr(t, d.Write(n, s), nil)
		}
		noLog(t, d)
		if d.Waiting() != 60 {
			t.Errorf("%q: %d wait", s, d.Waiting())
		}
		checkErr(t, d.Flush(), nil)
		noLog(t, d)
		l := format(t, d)
		has(t, d)
		checkErr(t, l.Add([]string{s, "a"}), nil)
		has(t, d, s, "a")
	}
}

// P170: records are told in order, whole, whatever bytes they have, also by another log that is opened on the way.
func TestOpen(t *testing.T) {
	d, l := begin(t, 1000)
	var want []string
	for i, s := range kinds {
		checkErr(t, l.Add([]string{s}), nil)
		want = append(want, s)
		has(t, d, want...)
		if i%3 == 2 {
			l, _ = open(t, d)
		}
	}
	checkErr(t, l.Add(kinds), nil)
	want = append(want, kinds...)
	has(t, d, want...)
	checkErr(t, l.Clear(kinds), nil)
	has(t, d, kinds...)
}

// P170: to open takes no power where nothing waits, changes nothing, and can be done without any.
func TestOpenReads(t *testing.T) {
	d, l := begin(t, 60)
	checkErr(t, l.Add([]string{"a", "b"}), nil)
	before := contents(t, d)
	checkErr(t, d.Fail(2), nil)
	for range 5 {
		has(t, d, "a", "b")
	}
	checkErr(t, d.Write(59, ""), nil)
	checkErr(t, d.Flush(), nil)
	checkErr(t, d.Flush(), api.ErrPower)
	has(t, d, "a", "b")
	if !slices.Equal(contents(t, d), before) {
		t.Errorf("%q; want %q", contents(t, d), before)
	}
	x, _ := open(t, d)
	checkErr(t, x.Add([]string{"c"}), api.ErrPower)
	has(t, d, "a", "b")
}

// P171: records stand behind the others; none, and empty ones, are no error.
func TestAdd(t *testing.T) {
	d, l := begin(t, 200)
	checkErr(t, l.Add(nil), nil)
	has(t, d)
	checkErr(t, l.Add([]string{}), nil)
	has(t, d)
	checkErr(t, l.Add([]string{""}), nil)
	has(t, d, "")
	checkErr(t, l.Add([]string{"b", "a", "b"}), nil)
	checkErr(t, l.Add(nil), nil)
	checkErr(t, l.Add([]string{"", ""}), nil)
	has(t, d, "", "b", "a", "b", "", "")
	checkErr(t, l.Add(slices.Repeat([]string{""}, 100)), nil)
	has(t, d, append([]string{"", "b", "a", "b"}, slices.Repeat([]string{""}, 102)...)...)
}

// P171: Clear has its records in place of all others, how ever often it is called.
func TestClear(t *testing.T) {
	d, l := begin(t, 100)
	checkErr(t, l.Clear([]string{"a"}), nil)
	has(t, d, "a")
	checkErr(t, l.Add([]string{"b", text(300)}), nil)
	has(t, d, "a", "b", text(300))
	checkErr(t, l.Clear([]string{"c", "d"}), nil)
	has(t, d, "c", "d")
	checkErr(t, l.Clear(nil), nil)
	has(t, d)
	checkErr(t, l.Clear(nil), nil)
	has(t, d)
	checkErr(t, l.Add([]string{"e"}), nil)
	has(t, d, "e")
	for i := range 20 {
		checkErr(t, l.Clear([]string{strconv.Itoa(i), text(i * 20)}), nil)
		checkErr(t, l.Add([]string{"more"}), nil)
		has(t, d, strconv.Itoa(i), text(i*20), "more")
		if i%7 == 0 {
			l, _ = open(t, d)
		}
	}
}

// P171: what a call that answered no error did lasts: nothing waits any more.
func TestNothingWaits(t *testing.T) {
	d, l := begin(t, 100)
	for i := range 10 {
		if d.Waiting() != 0 {
			t.Fatalf("%d: %d wait", i, d.Waiting())
		}
		if i%4 == 3 {
			checkErr(t, l.Clear([]string{text(i * 10)}), nil)
		} else {
			checkErr(t, l.Add([]string{text(i * 10)}), nil)
		}
	}
	format(t, d)
	if d.Waiting() != 0 {
		t.Fatalf("%d wait", d.Waiting())
	}
}

// P171: behind ErrPower all calls answer it, also those for which there is no room, and also where the power is there again; opened anew, the log goes on.
func TestBehindPower(t *testing.T) {
	for _, clears := range []bool{false, true} {
		d, l := begin(t, 60)
		checkErr(t, l.Add([]string{"a"}), nil)
		checkErr(t, d.Fail(0), nil)
		if clears {
			checkErr(t, l.Clear([]string{"b"}), api.ErrPower)
		} else {
			checkErr(t, l.Add([]string{"b"}), api.ErrPower)
		}
		always := func() {
			t.Helper()
			for _, records := range [][]string{nil, {""}, {"c"}, {text(5000)}} {
				checkErr(t, l.Add(records), api.ErrPower)
				checkErr(t, l.Clear(records), api.ErrPower)
			}
			has(t, d, "a")
		}
		always()
		d.Crash(nil)
		always()
		x, records := open(t, d)
		if !slices.Equal(records, []string{"a"}) {
			t.Errorf("%q", records)
		}
		always()
		checkErr(t, x.Add([]string{"d"}), nil)
		has(t, d, "a", "d")
		checkErr(t, l.Add([]string{"c"}), api.ErrPower)
		checkErr(t, x.Clear([]string{"e"}), nil)
		has(t, d, "e")
	}
}

// P171: where there is no room ErrFull is no loss of power: the log goes on.
func TestBehindFull(t *testing.T) {
	d, l := begin(t, 60)
	checkErr(t, l.Add([]string{"a"}), nil)
	checkErr(t, d.Fail(0), nil)
	for range 3 {
		checkErr(t, l.Add([]string{text(5000)}), api.ErrFull)
		checkErr(t, l.Clear([]string{text(5000)}), api.ErrFull)
	}
	d.Crash(nil)
	checkErr(t, l.Add([]string{"b"}), nil)
	has(t, d, "a", "b")
}

// P4: what was handed over may change, and so may what was answered: the log does not. What lies behind a list's length is neither read nor written.
func TestNothingIsShared(t *testing.T) {
	d, l := begin(t, 60)
	list := []string{"a", "b", "behind"}
	checkErr(t, l.Add(list[:2]), nil)
	if !slices.Equal(list, []string{"a", "b", "behind"}) {
		t.Errorf("%q", list)
	}
	list[0] = "x"
	has(t, d, "a", "b")
	_, records := open(t, d)
	records[0] = "y"
	_ = append(records, "z")
	has(t, d, "a", "b")
	list = []string{"c", "behind"}
	checkErr(t, l.Clear(list[:1]), nil)
	list[0] = "x"
	has(t, d, "c")
	if list[1] != "behind" {
		t.Errorf("%q", list)
	}
}

// P2: a log is what its disk says: several that were opened on one disk go on from each other.
func TestSeveralOnOneDisk(t *testing.T) {
	d, a := begin(t, 200)
	b, _ := open(t, d)
	checkErr(t, a.Add([]string{"a1"}), nil)
	checkErr(t, b.Add([]string{"b1"}), nil)
	checkErr(t, a.Add([]string{"a2"}), nil)
	has(t, d, "a1", "b1", "a2")
	checkErr(t, b.Clear([]string{"b2"}), nil)
	checkErr(t, a.Add([]string{"a3"}), nil)
	has(t, d, "b2", "a3")
	c := format(t, d)
	checkErr(t, a.Add([]string{"a4"}), nil)
	checkErr(t, c.Add([]string{"c1"}), nil)
	has(t, d, "a4", "c1")
}

// P2: logs on copies of one disk, side by side, do not see each other.
func TestSideBySide(t *testing.T) {
	first, l := begin(t, 100)
	checkErr(t, l.Add([]string{"first"}), nil)
	var group sync.WaitGroup
	for i := range 8 {
		d := first.Copy()
		group.Go(func() {
			x, _, err := log.Open(d)
			for k := range 200 {
				if err != nil {
					t.Errorf("%d: %v", k, err)
					return
				}
				want := []string{strconv.Itoa(i), text(k)}
				if err = x.Clear(want[:1]); err == nil {
					err = x.Add(want[1:])
				}
				_, got, _ := log.Open(d)
				if !slices.Equal(got, want) {
					t.Errorf("%q; want %q", got, want)
				}
			}
		})
	}
	group.Wait()
	has(t, first, "first")
}

// What README.md says of a log.
func TestReadme(t *testing.T) {
	d := blank(t, 100)
	l := format(t, d)
	checkErr(t, l.Add([]string{"a", "b"}), nil)
	checkErr(t, l.Clear([]string{"c"}), nil)
	checkErr(t, d.Fail(1), nil)
	checkErr(t, l.Add([]string{"d", "e"}), api.ErrPower)
	checkErr(t, l.Add([]string{"f"}), api.ErrPower)
	d.Crash([]bool{true})
	l, records := open(t, d)
	if !slices.Equal(records, []string{"c"}) {
		t.Errorf("%q", records)
	}
	checkErr(t, l.Add([]string{text(4000)}), api.ErrFull)
}
