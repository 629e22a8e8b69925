package log_test

import (
	"errors"
	"slices"
	"strings"
	"testing"

	"pigeonholes/api"
	"pigeonholes/disk"
	"pigeonholes/log"
)

// What the package exports, as it was given.
var (
	_ func(*disk.Disk) (*log.Log, error)           = log.Format
	_ func(*disk.Disk) (*log.Log, []string, error) = log.Open
	_ func(*log.Log, []string) error               = (*log.Log).Add
	_ func(*log.Log, []string) error               = (*log.Log).Clear
)

// checkErr: the error itself, without a place.
func checkErr(t *testing.T, err, want error) {
	t.Helper()
	var fault *api.Fault
	if err != want || errors.As(err, &fault) {
		t.Fatalf("%v; want %v", err, want)
	}
}

// blank disk.
func blank(t *testing.T, sectors int) *disk.Disk {
	t.Helper()
	d, err := disk.New(sectors)
	checkErr(t, err, nil)
	return d
}

// begin a log, on a disk of its own.
func begin(t *testing.T, sectors int) (*disk.Disk, *log.Log) {
	t.Helper()
	d := blank(t, sectors)
	return d, format(t, d)
}

func format(t *testing.T, d *disk.Disk) *log.Log {
	t.Helper()
	l, err := log.Format(d)
	checkErr(t, err, nil)
	if l == nil {
		t.Fatal("no log")
	}
	return l
}

func open(t *testing.T, d *disk.Disk) (*log.Log, []string) {
	t.Helper()
	l, records, err := log.Open(d)
	checkErr(t, err, nil)
	if l == nil {
		t.Fatal("no log")
	}
	return l, records
}

// noLog is there.
func noLog(t *testing.T, d *disk.Disk) {
	t.Helper()
	l, records, err := log.Open(d)
	checkErr(t, err, api.ErrText)
	if l != nil || len(records) != 0 {
		t.Fatalf("%v, %q", l, records)
	}
}

// has: these records count, also behind a crash that keeps nothing, and one that keeps all.
func has(t *testing.T, d *disk.Disk, want ...string) {
	t.Helper()
	none, all := d.Copy(), d.Copy()
	none.Crash(nil)
	all.Crash(slices.Repeat([]bool{true}, all.Waiting()))
	for _, x := range []*disk.Disk{none, all, d} {
		if _, records := open(t, x); !slices.Equal(records, want) {
			t.Fatalf("%q; want %q", records, want)
		}
	}
}

// contents of all sectors.
func contents(t *testing.T, d *disk.Disk) []string {
	t.Helper()
	l := make([]string, d.Sectors())
	for n := range l {
		s, err := d.Read(n)
		checkErr(t, err, nil)
		l[n] = s
	}
	return l
}

// text of so many bytes.
func text(n int) string { return strings.Repeat("x", n) }

// reckon is what P171 says of room: 64, 64 more for each Add, and for each record 16 and its bytes.
func reckon(adds int, records []string) int {
	n := 64 + 64*adds
	for _, s := range records {
		n += 16 + len(s)
	}
	return n
}

// isRoom: is so much at most a third of a disk?
func isRoom(sectors, bytes int) bool { return 3*bytes <= 64*sectors }

// most bytes of room that a disk has.
func most(sectors int) int {
	n := 0
	for isRoom(sectors, n+1) {
		n++
	}
	return n
}
