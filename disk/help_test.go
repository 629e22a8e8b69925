package disk_test

import (
	"errors"
	"math"
	"slices"
	"strings"
	"testing"

	"pigeonholes/api"
	"pigeonholes/disk"
)

// What the package exports, as it was given.
var (
	_ func(int) (*disk.Disk, error)         = disk.New
	_ func(*disk.Disk) int                  = (*disk.Disk).Sectors
	_ func(*disk.Disk, int, string) error   = (*disk.Disk).Write
	_ func(*disk.Disk, int) (string, error) = (*disk.Disk).Read
	_ func(*disk.Disk) error                = (*disk.Disk).Flush
	_ func(*disk.Disk) int                  = (*disk.Disk).Waiting
	_ func(*disk.Disk, int) error           = (*disk.Disk).Fail
	_ func(*disk.Disk, []bool)              = (*disk.Disk).Crash
	_ func(*disk.Disk) *disk.Disk           = (*disk.Disk).Copy
)

// Numbers that no sector of a disk of three has.
var noSectors = []int{-1, 3, 4, -3, api.MaxSectors, 1 << 32, 1<<32 + 1, math.MaxInt, math.MinInt}

// Texts that are longer than a sector.
var tooLong = []string{strings.Repeat("x", api.Sector+1), strings.Repeat("\x00", api.Sector+1), strings.Repeat("x", 2*api.Sector), strings.Repeat("x", 100*api.Sector)}

// checkErr: the error itself, without a place.
func checkErr(t *testing.T, err, want error) {
	t.Helper()
	var fault *api.Fault
	if err != want || errors.As(err, &fault) {
		t.Fatalf("%v; want %v", err, want)
	}
}

// begin a disk.
func begin(t *testing.T, sectors int) *disk.Disk {
	t.Helper()
	d, err := disk.New(sectors)
	checkErr(t, err, nil)
	return d
}

// whole sector: a text with bytes 0 behind.
func whole(s string) string {
	for len(s) < api.Sector {
		s += "\x00"
	}
	return s
}

// put: "0a 1b" writes a into sector 0, and then b into 1.
func put(t *testing.T, d *disk.Disk, writes string) {
	t.Helper()
	for _, w := range strings.Fields(writes) {
		checkErr(t, d.Write(int(w[0]-'0'), w[1:]), nil)
	}
}

// flush what waits.
func flush(t *testing.T, d *disk.Disk) {
	t.Helper()
	checkErr(t, d.Flush(), nil)
	if d.Waiting() != 0 {
		t.Fatalf("%d wait", d.Waiting())
	}
}

// all sectors, as they are read.
func all(t *testing.T, d *disk.Disk) []string {
	t.Helper()
	l := make([]string, d.Sectors())
	for n := range l {
		s, err := d.Read(n)
		checkErr(t, err, nil)
		l[n] = s
	}
	return l
}

// has: these texts are in the sectors, with bytes 0 behind, and so many writes wait.
func has(t *testing.T, d *disk.Disk, waiting int, want ...string) {
	t.Helper()
	for n := range want {
		want[n] = whole(want[n])
	}
	if l := all(t, d); !slices.Equal(l, want) {
		t.Fatalf("%q; want %q", l, want)
	}
	if d.Waiting() != waiting {
		t.Fatalf("%d wait; want %d", d.Waiting(), waiting)
	}
}

// keeps: "yn" is true, false.
func keeps(s string) []bool {
	var l []bool
	for _, c := range s {
		l = append(l, c == 'y')
	}
	return l
}
