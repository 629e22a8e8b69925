package nodes_test

import (
	"math"
	"slices"
	"testing"

	"pigeonholes/api"
	"pigeonholes/nodes"
)

// restore must go well.
func restore(t *testing.T, most int, l ...nodes.Number) *nodes.Table {
	t.Helper()
	x, err := nodes.Restore(l, most)
	if x == nil || err != nil {
		t.Fatalf("%v: %v, %v", l, x, err)
	}
	return x
}

// checkNumbers that were given.
func checkNumbers(t *testing.T, x *nodes.Table, want ...nodes.Number) {
	t.Helper()
	if l := x.Numbers(); !slices.Equal(l, want) {
		t.Errorf("%v; want %v", l, want)
	}
}

// P51: Adjust is as Set, with the same errors, but no Change is counted.
func TestAdjust(t *testing.T) {
	x := table(t, 3)
	file, dir := add(t, x, api.File, api.Handle{}), add(t, x, api.Dir, api.Handle{Node: 1})
	for _, h := range []api.Handle{file, dir} {
		if err := x.Adjust(h, 4, 5, file); err != nil {
			t.Fatal(err)
		}
	}
	check(t, x, file, api.Attr{Kind: api.File, Links: 5})
	check(t, x, dir, api.Attr{Kind: api.Dir, Size: 4, Links: 5, Up: file})
	checkErr(t, x.Adjust(api.Handle{Node: 2}, -1, 0, file), api.ErrStale)
	checkErr(t, x.Adjust(dir, -1, 0, dir), api.ErrBound)
	checkErr(t, x.Adjust(file, 0, -1, dir), api.ErrBound)
	check(t, x, file, api.Attr{Kind: api.File, Links: 5})
	check(t, x, dir, api.Attr{Kind: api.Dir, Size: 4, Links: 5, Up: file})
}

// P50, P52: each number that was given is told, with how often, whether a node is there or not.
func TestNumbers(t *testing.T) {
	x := table(t, 5)
	checkNumbers(t, x)
	for i := range 3 {
		add(t, x, 1+i%2, api.Handle{Node: i})
	}
	set(t, x, api.Handle{Node: 1}, 7, 8, api.Handle{})
	free(t, x, api.Handle{Node: 2})
	free(t, x, api.Handle{})
	want := []nodes.Number{{Gen: 1}, {Kind: api.Dir, Change: 1}, {Gen: 1}}
	checkNumbers(t, x, want...)
	x.Numbers()[1] = nodes.Number{} // P4: it is nobody else's
	checkNumbers(t, x, want...)
	add(t, x, api.Dir, api.Handle{Gen: 1})
	checkNumbers(t, x, nodes.Number{Gen: 1, Kind: api.Dir}, want[1], want[2])
}

// P50 to P53: a table that is restored has the same numbers, and goes on as the other one would.
func TestRestore(t *testing.T) {
	l := []nodes.Number{{Gen: 3, Kind: api.Dir, Change: 9}, {Gen: 2}, {Kind: api.File, Change: 4}}
	x := restore(t, 4, l...)
	checkNumbers(t, x, l...)
	checkCount(t, x, 2)
	check(t, x, api.Handle{Gen: 3}, api.Attr{Kind: api.Dir, Change: 9})
	check(t, x, api.Handle{Node: 2}, api.Attr{Kind: api.File, Change: 4})
	if d := held(t, x, api.Handle{Node: 2}); d.Size() != 0 || d.Blocks() != 0 {
		t.Errorf("%d bytes, %d blocks", d.Size(), d.Blocks())
	}
	for _, h := range []api.Handle{{}, {Gen: 2}, {Gen: 4}, {Node: 1}, {Node: 1, Gen: 1}, {Node: 1, Gen: 2}, {Node: 3}} {
		checkStale(t, x, h)
	}
	l[0] = nodes.Number{} // P4: it is not kept
	check(t, x, api.Handle{Gen: 3}, api.Attr{Kind: api.Dir, Change: 9})
	add(t, x, api.File, api.Handle{Node: 1, Gen: 2})
	add(t, x, api.File, api.Handle{Node: 3})
	_, err := x.Add(api.File)
	checkErr(t, err, api.ErrFull)
	checkNumbers(t, restore(t, 1))
}

// P50: most is how many nodes there are at most, also where one that was given by a greater table has a greater number.
func TestRestoreMost(t *testing.T) {
	l := []nodes.Number{{Kind: api.Dir}, {Gen: 1}, {Gen: 1}, {Gen: 5, Kind: api.File}, {Gen: 6}}
	x := restore(t, 2, l...)
	_, err := x.Add(api.File)
	checkErr(t, err, api.ErrFull)
	checkNumbers(t, x, l...)
	free(t, x, api.Handle{Node: 3, Gen: 5})
	add(t, x, api.File, api.Handle{Node: 1, Gen: 1})
	_, err = x.Add(api.File)
	checkErr(t, err, api.ErrFull)
	checkStale(t, x, api.Handle{Node: 3, Gen: 6})
}

// What cannot be restored: P3: no table beside an error.
func TestRestoreErrors(t *testing.T) {
	root := nodes.Number{Kind: api.Dir}
	for _, c := range []struct {
		l    []nodes.Number
		most int
		want error
	}{
		{nil, 0, api.ErrBound}, {nil, 301, api.ErrBound}, {nil, -1, api.ErrBound}, {[]nodes.Number{{Kind: 9}}, 0, api.ErrBound},
		{[]nodes.Number{{Gen: -1, Kind: api.Dir}}, 5, api.ErrBound}, {[]nodes.Number{root, {Gen: math.MinInt}}, 5, api.ErrBound},
		{[]nodes.Number{root, {Kind: api.File, Change: -1}}, 5, api.ErrBound},
		{[]nodes.Number{{Kind: 3}}, 5, api.ErrShape}, {[]nodes.Number{root, {Kind: -1}}, 5, api.ErrShape}, {[]nodes.Number{root, {}}, 5, api.ErrShape},
		{[]nodes.Number{root, root}, 1, api.ErrFull}, {[]nodes.Number{root, {Gen: 1}, root, root}, 2, api.ErrFull},
	} {
		x, err := nodes.Restore(c.l, c.most)
		if x != nil {
			t.Errorf("%v: a table beside %v", c.l, err)
		}
		checkErr(t, err, c.want)
	}
}
