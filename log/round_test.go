package log_test

import (
	"math/rand"
	"slices"
	"strings"
	"testing"

	"pigeonholes/api"
	"pigeonholes/disk"
	"pigeonholes/log"
)

// book of a log, as P170 to P172 have it: all that may be so. That is one thing, until the power goes.
type book struct {
	d    *disk.Disk
	l    *log.Log // nil: none was given, or the power went as it was asked for
	dark bool     // the power went in a call of that log
	may  []state
}

// state of a disk: is there a log, what counts, and how many Adds there were since the last Clear.
type state struct {
	is      bool
	records []string
	adds    int
}

// next states behind a step, of those in which it may be done: it must, where there is room; and those in which there may be none.
func (b *book) next(x step) (done, full []state) {
	for _, s := range b.may {
		n := state{is: true, records: s.after(x)}
		if x.how == "add" {
			n.adds = s.adds + 1
		}
		if !isRoom(b.d.Sectors(), reckon(n.adds, n.records)) {
			full = append(full, s)
		}
		if bytes(n.records) <= 64*b.d.Sectors() {
			done = append(done, n)
		}
	}
	return done, full
}

// bytes of records.
func bytes(records []string) int { return len(strings.Join(records, "")) }

func (s state) after(x step) []string { return x.after(s.records) }

// step of a log, and of its book, which says whether that may be.
func (b *book) step(t *testing.T, x step) error {
	t.Helper()
	if b.l == nil {
		x = step{how: "format"}
	}
	l, err := x.take(b.d, b.l)
	if b.dark && x.how != "format" {
		checkErr(t, err, api.ErrPower)
		return err
	}
	b.l = l
	b.dark = err == api.ErrPower
	done, full := b.next(x)
	want := done
	switch err {
	case nil:
		b.may = done
	case api.ErrFull:
		b.may, want = full, full
	default:
		checkErr(t, err, api.ErrPower)
		b.may = append(b.may, done...)
	}
	if len(want) == 0 {
		t.Fatalf("%v: %v; as %v may be", x, err, b.may)
	}
	return err
}

// crash, and open anew: what is told is one of the states that may be.
func (b *book) crash(t *testing.T, keep []bool) {
	t.Helper()
	b.d.Crash(keep)
	l, records, err := log.Open(b.d)
	var may []state
	for _, s := range b.may {
		if s.is == (err == nil) && slices.Equal(s.records, records) {
			may = append(may, s)
		}
	}
	if len(may) == 0 {
		t.Fatalf("%q, %v; want one of %v", records, err, b.may)
	}
	*b = book{d: b.d, l: l, may: may}
}

func beginBook(t *testing.T, sectors int) *book {
	return &book{d: blank(t, sectors), may: []state{{}}}
}

// P170 to P172: after any calls, and losses of power, a log is as its book has it, and there is room where it says so.
func TestAsItsBook(t *testing.T) {
	met := map[error]int{}
	for seed := range int64(500) {
		r := rand.New(rand.NewSource(seed))
		b := beginBook(t, 8+r.Intn(60))
		for range 100 {
			if r.Intn(6) == 0 {
				checkErr(t, b.d.Fail(r.Intn(12)), nil)
			}
			x := step{how: []string{"add", "add", "add", "add", "add", "clear", "clear", "format"}[r.Intn(8)]}
			for range r.Intn(4) {
				if x.how != "format" {
					x.records = append(x.records, strings.Repeat(string(rune('a'+r.Intn(26))), r.Intn(1+r.Intn(150))))
				}
			}
			met[b.step(t, x)]++
			if b.dark && r.Intn(3) > 0 || r.Intn(10) == 0 {
				keep := make([]bool, b.d.Waiting())
				for i := range keep {
					keep[i] = r.Intn(3) > 0
				}
				b.crash(t, keep)
			}
		}
	}
	for _, err := range []error{nil, api.ErrFull, api.ErrPower} {
		if met[err] < 1000 {
			t.Errorf("%v was met %d times", err, met[err])
		}
	}
}

// sound: a disk, whatever is on it, is opened, or is not; if it is, the log goes on from what it told.
func sound(t *testing.T, d *disk.Disk) bool {
	t.Helper()
	l, records, err := log.Open(d)
	if err != nil {
		checkErr(t, err, api.ErrText)
		if l != nil || len(records) != 0 {
			t.Fatalf("%v, %q", l, records)
		}
		return false
	}
	records = slices.Clone(records)
	switch err := l.Add([]string{"more", ""}); err {
	case nil:
		records = append(records, "more", "")
	default:
		checkErr(t, err, api.ErrFull)
	}
	has(t, d, records...)
	checkErr(t, l.Clear([]string{"alone", text(70)}), nil)
	has(t, d, "alone", text(70))
	return true
}

// P1: whatever is changed on a disk with a log, byte by byte, no call panics, and what can be opened goes on.
func TestWhateverIsThere(t *testing.T) {
	first, l := begin(t, 40)
	checkErr(t, l.Add([]string{"a", text(100)}), nil)
	checkErr(t, l.Clear([]string{"b", text(100), ""}), nil)
	checkErr(t, l.Add([]string{"c"}), nil)
	opened, not := 0, 0
	for n := range first.Sectors() {
		s, err := first.Read(n)
		checkErr(t, err, nil)
		for at := range len(s) {
			for _, c := range []byte{0, 1, 2, 20, 64, 127, 128, 255, s[at] + 1} {
				d := first.Copy()
				checkErr(t, d.Write(n, s[:at]+string([]byte{c})+s[at+1:]), nil)
				if sound(t, d) {
					opened++
				} else {
					not++
				}
				format(t, d)
				has(t, d)
			}
		}
	}
	if opened < 1000 || not < 100 {
		t.Errorf("%d were opened, %d were not", opened, not)
	}
}

// P3: where somebody wrote over a log, on the disk below it, its calls find none, and do nothing.
func TestGoneBelow(t *testing.T) {
	d, l := begin(t, 40)
	for n := range 40 {
		checkErr(t, d.Write(n, "gone"), nil)
	}
	before := contents(t, d)
	checkErr(t, l.Add([]string{"a"}), api.ErrText)
	checkErr(t, l.Clear([]string{"a"}), api.ErrText)
	if !slices.Equal(contents(t, d), before) || d.Waiting() != 40 {
		t.Error("something was done")
	}
}

// FuzzLog takes four bytes for each call: what it is, how many records, how long they are, and what is kept, or how long the power lasts.
func FuzzLog(f *testing.F) {
	for _, s := range []string{"", "\x07\x00\x00\x00\x00\x01\x05\x00\x04\x02\x40\x00\x06\x00\x00\x02\x00\x01\x20\x00\x08\x00\x00\x03", "\x07\x00\x00\x00\x06\x00\x00\x03\x00\x03\x30\x00\x08\x00\x00\x05\x00\x01\x01\x00\x04\x01\x70\x00", "\x06\x00\x00\x01\x07\x00\x00\x00\x08\x00\x00\x01\x00\x01\x03\x00"} {
		f.Add(s)
	}
	f.Fuzz(func(t *testing.T, s string) {
		b := beginBook(t, 30)
		for i := 0; len(s) >= 4 && i < 100; i++ {
			what, count, size, most := s[0]%9, int(s[1])%4, int(s[2]), int(s[3])
			x := step{how: "format"}
			if what < 6 {
				x.how = []string{"add", "clear"}[what/4]
				for k := range count {
					x.records = append(x.records, strings.Repeat(string(rune('a'+(i+k)%26)), size))
				}
			}
			switch {
			case what == 6:
				checkErr(t, b.d.Fail(most%16), nil)
			case what == 8:
				keep := make([]bool, b.d.Waiting())
				for k := range keep {
					keep[k] = most>>(k%8)&1 == 1
				}
				b.crash(t, keep)
			default:
				b.step(t, x)
			}
			s = s[4:]
		}
	})
}

// FuzzOpen takes a text for a log: bytes that are held against those of a disk that has one, sector by sector.
func FuzzOpen(f *testing.F) {
	for _, s := range []string{"", text(64), strings.Repeat("\x00", 70) + "\x01", strings.Repeat("\x00", 31) + "\x01", strings.Repeat("\x00", 64*2+3) + "\x05", strings.Repeat("\x00", 64+27) + "\x02\x00\x00\x00\x80"} {
		f.Add(s)
	}
	f.Fuzz(func(t *testing.T, s string) {
		d, l := begin(t, 12)
		checkErr(t, l.Add([]string{"a"}), nil)
		checkErr(t, l.Clear([]string{"b", text(70), ""}), nil)
		for n := range min(12, len(s)/64+1) {
			b, err := d.Read(n)
			checkErr(t, err, nil)
			mixed := []byte(b)
			for i, c := range []byte(s[n*64 : min(len(s), n*64+64)]) {
				mixed[i] ^= c
			}
			checkErr(t, d.Write(n, string(mixed)), nil)
		}
		sound(t, d)
		format(t, d)
		has(t, d)
	})
}
