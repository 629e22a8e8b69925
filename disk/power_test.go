package disk_test

import (
	"math"
	"slices"
	"testing"

	"pigeonholes/api"
)

// P161: after so many Writes and Flushes each one answers ErrPower, ever after, and does nothing.
func TestFail(t *testing.T) {
	for after := range 20 {
		d := begin(t, 3)
		put(t, d, "0a 1b")
		checkErr(t, d.Fail(after), nil)
		wait, want := 2, ""
		for i := range after {
			if i%3 == 2 {
				flush(t, d)
				wait = 0
				continue
			}
			want = string(rune('c' + i))
			checkErr(t, d.Write(2, want), nil)
			wait++
		}
		for range 10 {
			checkErr(t, d.Write(0, "x"), api.ErrPower)
			has(t, d, wait, "a", "b", want)
			checkErr(t, d.Flush(), api.ErrPower)
			has(t, d, wait, "a", "b", want)
		}
	}
}

// P161: Writes alone, and Flushes alone, use up what is left.
func TestFailAlike(t *testing.T) {
	d := begin(t, 3)
	checkErr(t, d.Fail(3), nil)
	put(t, d, "0a 0b 0c")
	checkErr(t, d.Write(0, "d"), api.ErrPower)
	d = begin(t, 3)
	checkErr(t, d.Fail(3), nil)
	for range 3 {
		flush(t, d)
	}
	checkErr(t, d.Flush(), api.ErrPower)
	checkErr(t, d.Write(0, "d"), api.ErrPower)
}

// P161: a Flush that answers ErrPower flushes nothing: what waited, waits.
func TestNoFlush(t *testing.T) {
	d := begin(t, 3)
	put(t, d, "0a")
	flush(t, d)
	put(t, d, "0b 1c")
	checkErr(t, d.Fail(0), nil)
	checkErr(t, d.Flush(), api.ErrPower)
	has(t, d, 2, "b", "c", "")
	x := d.Copy()
	d.Crash(nil)
	has(t, d, 0, "a", "", "")
	x.Crash(keeps("ny"))
	has(t, x, 0, "a", "c", "")
}

// P161: a Write that answers ErrPower is none: a crash keeps nothing of it.
func TestNoWrite(t *testing.T) {
	d := begin(t, 3)
	checkErr(t, d.Fail(1), nil)
	put(t, d, "0a")
	checkErr(t, d.Write(1, "b"), api.ErrPower)
	checkErr(t, d.Write(0, "c"), api.ErrPower)
	d.Crash(keeps("yyyyy"))
	has(t, d, 0, "a", "", "")
}

// P161: what has another error does not count, and answers it also where there is no power; to read, count or copy counts as little.
func TestNotCounted(t *testing.T) {
	d := begin(t, 3)
	checkErr(t, d.Fail(2), nil)
	others := func() {
		t.Helper()
		for _, n := range noSectors {
			checkErr(t, d.Write(n, "x"), api.ErrBound)
			checkErr(t, d.Write(n, tooLong[0]), api.ErrBound)
			_, err := d.Read(n)
			checkErr(t, err, api.ErrBound)
		}
		for _, s := range tooLong {
			checkErr(t, d.Write(0, s), api.ErrShape)
		}
		all(t, d)
		d.Waiting()
		put(t, begin(t, 1), "0a 0b 0c")
		x := d.Copy()
		x.Write(0, "x")
		x.Flush()
	}
	others()
	put(t, d, "0a")
	others()
	flush(t, d)
	others()
	checkErr(t, d.Write(0, "b"), api.ErrPower)
	others()
	checkErr(t, d.Flush(), api.ErrPower)
	has(t, d, 0, "a", "", "")
}

// P161: below 0 it is ErrBound, and the power is as it was: there, about to go, or gone.
func TestFailBound(t *testing.T) {
	d := begin(t, 1)
	wrong := func() {
		t.Helper()
		for _, after := range []int{-1, -2, math.MinInt} {
			checkErr(t, d.Fail(after), api.ErrBound)
		}
	}
	wrong()
	put(t, d, "0a 0b 0c")
	checkErr(t, d.Fail(2), nil)
	wrong()
	put(t, d, "0d")
	wrong()
	flush(t, d)
	wrong()
	checkErr(t, d.Write(0, "e"), api.ErrPower)
	wrong()
	checkErr(t, d.Flush(), api.ErrPower)
	has(t, d, 0, "d")
}

// P161: any other number will do, up to the greatest.
func TestFailLate(t *testing.T) {
	for _, after := range []int{1000, 1 << 31, 1 << 32, math.MaxInt} {
		d := begin(t, 1)
		checkErr(t, d.Fail(after), nil)
		for range 500 {
			put(t, d, "0a")
			flush(t, d)
		}
		if after == 1000 {
			checkErr(t, d.Flush(), api.ErrPower)
		} else {
			checkErr(t, d.Flush(), nil)
		}
	}
}

// P161: what Fail was told last holds: later, sooner, or of power that has gone.
func TestFailAnew(t *testing.T) {
	d := begin(t, 1)
	for _, l := range [][]int{{0, 2}, {2, 0}, {1, 5}, {5, 1}, {3, 3}, {0, 1, 4}} {
		for _, after := range l {
			checkErr(t, d.Fail(after), nil)
		}
		for range l[len(l)-1] {
			flush(t, d)
		}
		checkErr(t, d.Flush(), api.ErrPower)
		checkErr(t, d.Write(0, "x"), api.ErrPower)
	}
	has(t, d, 0, "")
}

// P161: behind a crash nothing fails, whether the power had gone, or was about to.
func TestCrashRestores(t *testing.T) {
	for _, after := range []int{0, 1, 2, 5} {
		d := begin(t, 2)
		checkErr(t, d.Fail(after), nil)
		d.Write(0, "a")
		d.Flush()
		d.Crash(nil)
		for range 10 {
			put(t, d, "1b")
			flush(t, d)
		}
		checkErr(t, d.Fail(1), nil)
		flush(t, d)
		checkErr(t, d.Flush(), api.ErrPower)
	}
}

// P161: of the writes that wait, in their order, those stay for which keep is true: all choices, of writes to one sector, and to others.
func TestCrash(t *testing.T) {
	writes := []struct {
		n int
		s string
	}{{0, "c"}, {1, "d"}, {0, "e"}, {0, "a"}, {2, "f"}, {1, "g"}, {0, ""}}
	for choice := range 1 << len(writes) {
		d := begin(t, 4)
		put(t, d, "0a 1b 3z")
		flush(t, d)
		want := []string{"a", "b", "", "z"}
		keep := make([]bool, len(writes))
		for i, w := range writes {
			checkErr(t, d.Write(w.n, w.s), nil)
			if choice>>i&1 == 1 {
				keep[i] = true
				want[w.n] = w.s
			}
		}
		told := slices.Clone(keep)
		d.Crash(keep)
		has(t, d, 0, slices.Clone(want)...)
		if !slices.Equal(keep, told) {
			t.Fatalf("%v becomes %v", told, keep)
		}
		d.Crash([]bool{true, true, true, true, true, true, true})
		has(t, d, 0, slices.Clone(want)...)
		put(t, d, "0x")
		d.Crash([]bool{false})
		has(t, d, 0, want...)
	}
}

// P161: for writes beyond keep it is false; what is beyond the writes says nothing.
func TestCrashShortOrLong(t *testing.T) {
	behind := []bool{false, true, true, true, true}
	for _, x := range []struct {
		keep []bool
		want string
	}{{nil, "ab"}, {[]bool{}, "ab"}, {keeps("y"), "cb"}, {keeps("n"), "ab"}, {keeps("ny"), "ad"}, {keeps("nn"), "ab"}, {keeps("nny"), "eb"}, {keeps("nnn"), "ab"}, {keeps("yyyyyyyy"), "ed"}, {keeps("nnnyyyyy"), "ab"}, {behind[:1], "ab"}, {behind[:2], "ad"}} {
		d := begin(t, 2)
		put(t, d, "0a 1b")
		flush(t, d)
		put(t, d, "0c 1d 0e")
		d.Crash(x.keep)
		has(t, d, 0, x.want[:1], x.want[1:])
	}
	if !slices.Equal(behind, []bool{false, true, true, true, true}) {
		t.Error(behind)
	}
}

// P161: a crash where nothing waits changes nothing, also of a new disk.
func TestCrashOfNothing(t *testing.T) {
	d := begin(t, 2)
	d.Crash(keeps("yyy"))
	has(t, d, 0, "", "")
	put(t, d, "0a")
	flush(t, d)
	d.Crash(keeps("nnn"))
	has(t, d, 0, "a", "")
}

// P161: which writes wait is counted anew behind a crash, and behind a Flush.
func TestCrashCountsAnew(t *testing.T) {
	d := begin(t, 3)
	put(t, d, "0a 1b")
	flush(t, d)
	put(t, d, "0c")
	d.Crash(keeps("y"))
	put(t, d, "1d 2e")
	d.Crash(keeps("ny"))
	has(t, d, 0, "c", "b", "e")
	put(t, d, "0f 0g 0h")
	flush(t, d)
	put(t, d, "0i 1j")
	d.Crash(keeps("ny"))
	has(t, d, 0, "h", "j", "e")
}

// P163: what was flushed stays, whatever is written behind it without a Flush, wherever the power goes, and however often it crashes.
func TestFlushedStays(t *testing.T) {
	d := begin(t, 3)
	put(t, d, "0a 1b 2c")
	flush(t, d)
	for after := range 10 {
		checkErr(t, d.Fail(after), nil)
		for range 12 {
			d.Write(after%3, "x")
			d.Write((after+1)%3, "y")
		}
		checkErr(t, d.Flush(), api.ErrPower)
		d.Crash(nil)
		has(t, d, 0, "a", "b", "c")
	}
	put(t, d, "1x 2y")
	d.Crash(keeps("ny"))
	has(t, d, 0, "a", "b", "y")
	d.Crash(nil)
	has(t, d, 0, "a", "b", "y")
}
