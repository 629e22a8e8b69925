package nodes_test

import (
	"errors"
	"math"
	"sync"
	"testing"

	"pigeonholes/api"
	"pigeonholes/data"
	"pigeonholes/nodes"
	"pigeonholes/plain"
)

// What the package exports, as it was given.
var (
	_ func(int) (*nodes.Table, error)                            = nodes.New
	_ func(*nodes.Table, int) (api.Handle, error)                = (*nodes.Table).Add
	_ func(*nodes.Table, api.Handle) (api.Attr, error)           = (*nodes.Table).Attr
	_ func(*nodes.Table, api.Handle, int, int, api.Handle) error = (*nodes.Table).Set
	_ func(*nodes.Table, api.Handle) (*data.Data, error)         = (*nodes.Table).Data
	_ func(*nodes.Table, api.Handle) error                       = (*nodes.Table).Touch
	_ func(*nodes.Table, api.Handle) error                       = (*nodes.Table).Free
	_ func(*nodes.Table) int                                     = (*nodes.Table).Count
)

// table must be there.
func table(t *testing.T, most int) *nodes.Table {
	t.Helper()
	x, err := nodes.New(most)
	if x == nil || err != nil {
		t.Fatalf("%d: %v, %v", most, x, err)
	}
	return x
}

// add must give the handle that is wanted.
func add(t *testing.T, x *nodes.Table, kind int, want api.Handle) api.Handle {
	t.Helper()
	h, err := x.Add(kind)
	if h != want || err != nil {
		t.Fatalf("kind %d: %v, %v; want %v", kind, h, err, want)
	}
	return h
}

// free must go well.
func free(t *testing.T, x *nodes.Table, h api.Handle) {
	t.Helper()
	if err := x.Free(h); err != nil {
		t.Fatalf("%v: %v", h, err)
	}
}

// set must go well.
func set(t *testing.T, x *nodes.Table, h api.Handle, size, links int, up api.Handle) {
	t.Helper()
	if err := x.Set(h, size, links, up); err != nil {
		t.Fatalf("%v: %v", h, err)
	}
}

// held must be there.
func held(t *testing.T, x *nodes.Table, h api.Handle) *data.Data {
	t.Helper()
	d, err := x.Data(h)
	if d == nil || err != nil {
		t.Fatalf("%v: %v, %v", h, d, err)
	}
	return d
}

// check what is told of a node.
func check(t *testing.T, x *nodes.Table, h api.Handle, want api.Attr) {
	t.Helper()
	if a, err := x.Attr(h); a != want || err != nil {
		t.Errorf("%v: %v, %v; want %v", h, a, err, want)
	}
}

// checkCount of nodes.
func checkCount(t *testing.T, x *nodes.Table, want int) {
	t.Helper()
	if n := x.Count(); n != want {
		t.Errorf("%d are there; want %d", n, want)
	}
}

// checkErr: the error itself, without a place.
func checkErr(t *testing.T, err, want error) {
	t.Helper()
	var fault *api.Fault
	if err != want || errors.As(err, &fault) {
		t.Fatalf("%v; want %v", err, want)
	}
	if _, at := plain.Code(err); at != -1 {
		t.Errorf("%v at %d", err, at)
	}
}

// checkStale: all that can be asked of a handle of nothing is ErrStale, ahead of any other error, with nothing beside it (P3).
func checkStale(t *testing.T, x *nodes.Table, h api.Handle) {
	t.Helper()
	count := x.Count()
	a, err := x.Attr(h)
	checkErr(t, err, api.ErrStale)
	d, err := x.Data(h)
	checkErr(t, err, api.ErrStale)
	if a != (api.Attr{}) || d != nil {
		t.Errorf("%v: %v, %v beside an error", h, a, d)
	}
	checkErr(t, x.Set(h, 1, 1, h), api.ErrStale)
	checkErr(t, x.Set(h, -1, 1, h), api.ErrStale)
	checkErr(t, x.Set(h, 1, -1, h), api.ErrStale)
	checkErr(t, x.Touch(h), api.ErrStale)
	checkErr(t, x.Free(h), api.ErrStale)
	checkCount(t, x, count)
}

// P50: from 1 to MaxNodes, and nothing else.
func TestNewBounds(t *testing.T) {
	for _, most := range []int{0, -1, -300, math.MinInt, 301, 1000, 1 << 32, 1<<32 + 1, math.MaxInt} {
		x, err := nodes.New(most)
		if x != nil {
			t.Errorf("%d: a table beside an error", most)
		}
		checkErr(t, err, api.ErrBound)
	}
	for _, most := range []int{1, 2, 299, 300} {
		x := table(t, most)
		checkCount(t, x, 0)
		checkStale(t, x, api.Handle{})
	}
}

// P50: numbers rise from 0 on up to most, which is not among them; P3: what finds no room changes nothing.
func TestAddUntilFull(t *testing.T) {
	for _, most := range []int{1, 2, 3, 17, api.MaxNodes} {
		x := table(t, most)
		for i := range most {
			kind := 1 + i%2
			h := add(t, x, kind, api.Handle{Node: i})
			check(t, x, h, api.Attr{Kind: kind})
			checkCount(t, x, i+1)
		}
		for _, kind := range []int{api.File, api.Dir} {
			h, err := x.Add(kind)
			if h != (api.Handle{}) {
				t.Errorf("%v beside an error", h)
			}
			checkErr(t, err, api.ErrFull)
			checkCount(t, x, most)
		}
		checkStale(t, x, api.Handle{Node: most})
		last := api.Handle{Node: most - 1}
		free(t, x, last)
		add(t, x, api.File, api.Handle{Node: most - 1, Gen: 1})
	}
}

// P50: a kind that is none is ErrShape, also where there is no room; P3: no number is given for it.
func TestAddShape(t *testing.T) {
	x := table(t, 1)
	for range 2 {
		for _, kind := range []int{0, 3, 4, -1, -2, 1 + 1<<32, math.MinInt, math.MaxInt} {
			count := x.Count()
			h, err := x.Add(kind)
			if h != (api.Handle{}) {
				t.Errorf("%v beside an error", h)
			}
			checkErr(t, err, api.ErrShape)
			checkCount(t, x, count)
		}
		if x.Count() == 0 {
			add(t, x, api.Dir, api.Handle{})
		}
	}
}

// P50: the document's example: root, a file, the same number once more.
func TestNumbersAgain(t *testing.T) {
	x := table(t, 10)
	add(t, x, api.Dir, api.Handle{})
	first := add(t, x, api.File, api.Handle{Node: 1})
	free(t, x, first)
	add(t, x, api.File, api.Handle{Node: 1, Gen: 1})
	checkStale(t, x, first)
}

// P50, P52: the least number that is free comes first, whichever went first; each number counts its own times.
func TestLeastFree(t *testing.T) {
	x := table(t, 6)
	for i := range 5 {
		add(t, x, api.File, api.Handle{Node: i})
	}
	for _, i := range []int{3, 1, 4} {
		free(t, x, api.Handle{Node: i})
	}
	checkCount(t, x, 2)
	add(t, x, api.Dir, api.Handle{Node: 1, Gen: 1})
	free(t, x, api.Handle{Node: 1, Gen: 1})
	free(t, x, api.Handle{Node: 0})
	checkCount(t, x, 1)
	for _, h := range []api.Handle{{Node: 0, Gen: 1}, {Node: 1, Gen: 2}, {Node: 3, Gen: 1}, {Node: 4, Gen: 1}, {Node: 5}} {
		add(t, x, api.File, h)
	}
	checkCount(t, x, 6)
	check(t, x, api.Handle{Node: 2}, api.Attr{Kind: api.File})
}

// P50: what comes by a number that was used before has nothing of what was there.
func TestNewNodeIsEmpty(t *testing.T) {
	for _, was := range []int{api.File, api.Dir} {
		for _, kind := range []int{api.File, api.Dir} {
			x := table(t, 1)
			old := add(t, x, was, api.Handle{})
			set(t, x, old, 5, 6, api.Handle{Node: 7, Gen: 8})
			if was == api.File {
				if err := held(t, x, old).Write(100, "old"); err != nil {
					t.Fatal(err)
				}
			}
			free(t, x, old)
			h := add(t, x, kind, api.Handle{Gen: 1})
			check(t, x, h, api.Attr{Kind: kind})
			if kind == api.File {
				if d := held(t, x, h); d.Size() != 0 || d.Blocks() != 0 {
					t.Errorf("%d bytes, %d blocks", d.Size(), d.Blocks())
				}
			}
		}
	}
}

// P51: of a directory Size, Up and Links are as they were set last, each Set one Change more.
func TestSetDir(t *testing.T) {
	x := table(t, 3)
	h := add(t, x, api.Dir, api.Handle{})
	for i, c := range []struct {
		size, links int
		up          api.Handle
	}{
		{0, 2, api.Handle{}}, {7, 3, api.Handle{Node: 1}}, {7, 3, api.Handle{Node: 1}}, {0, 0, api.Handle{}},
		{math.MaxInt, 1, api.Handle{Node: -5, Gen: -6}}, {1, math.MaxInt, api.Handle{Node: math.MaxInt, Gen: math.MinInt}},
	} {
		set(t, x, h, c.size, c.links, c.up)
		check(t, x, h, api.Attr{Kind: api.Dir, Size: c.size, Links: c.links, Change: i + 1, Up: c.up})
	}
}

// P51: of a file Links alone; its Size is that of its data, whatever is set, and nothing is above it.
func TestSetFile(t *testing.T) {
	x := table(t, 3)
	h := add(t, x, api.File, api.Handle{})
	set(t, x, h, 99, 1, api.Handle{Node: 1, Gen: 2})
	check(t, x, h, api.Attr{Kind: api.File, Links: 1, Change: 1})
	if err := held(t, x, h).Write(0, "abc"); err != nil {
		t.Fatal(err)
	}
	check(t, x, h, api.Attr{Kind: api.File, Size: 3, Links: 1, Change: 1})
	set(t, x, h, 0, 5, api.Handle{Node: 1, Gen: 2})
	check(t, x, h, api.Attr{Kind: api.File, Size: 3, Links: 5, Change: 2})
	if d := held(t, x, h); d.Size() != 3 {
		t.Errorf("%d bytes", d.Size())
	}
}

// P51: below 0 is ErrBound, of a file's size too, and behind ErrStale; P3: it changes nothing.
func TestSetBounds(t *testing.T) {
	x := table(t, 3)
	up := api.Handle{Node: 9}
	file, dir := add(t, x, api.File, api.Handle{}), add(t, x, api.Dir, api.Handle{Node: 1})
	set(t, x, file, 4, 5, up)
	set(t, x, dir, 4, 5, up)
	for _, c := range []struct{ size, links int }{{-1, 0}, {0, -1}, {-1, -1}, {math.MinInt, 1}, {1, math.MinInt}, {-1, math.MaxInt}, {math.MaxInt, -1}} {
		for _, h := range []api.Handle{file, dir} {
			checkErr(t, x.Set(h, c.size, c.links, api.Handle{Node: 3}), api.ErrBound)
			check(t, x, file, api.Attr{Kind: api.File, Links: 5, Change: 1})
			check(t, x, dir, api.Attr{Kind: api.Dir, Size: 4, Links: 5, Change: 1, Up: up})
		}
	}
}

// P51: a node that is set or touched is that one alone.
func TestOthersStay(t *testing.T) {
	x := table(t, 4)
	var l []api.Handle
	for i := range 4 {
		l = append(l, add(t, x, 1+i%2, api.Handle{Node: i}))
	}
	set(t, x, l[1], 3, 2, l[3])
	if err := x.Touch(l[2]); err != nil {
		t.Fatal(err)
	}
	if err := held(t, x, l[2]).Write(10, "x"); err != nil {
		t.Fatal(err)
	}
	free(t, x, l[0])
	check(t, x, l[1], api.Attr{Kind: api.Dir, Size: 3, Links: 2, Change: 1, Up: l[3]})
	check(t, x, l[2], api.Attr{Kind: api.File, Size: 11, Change: 1})
	check(t, x, l[3], api.Attr{Kind: api.Dir})
	checkStale(t, x, l[0])
}

// P51: Touch is one Change more, and nothing else.
func TestTouch(t *testing.T) {
	x := table(t, 2)
	file, dir := add(t, x, api.File, api.Handle{}), add(t, x, api.Dir, api.Handle{Node: 1})
	set(t, x, dir, 2, 3, file)
	for i := range 5 {
		for _, h := range []api.Handle{file, dir} {
			if err := x.Touch(h); err != nil {
				t.Fatal(err)
			}
		}
		check(t, x, file, api.Attr{Kind: api.File, Change: i + 1})
		check(t, x, dir, api.Attr{Kind: api.Dir, Size: 2, Links: 3, Change: i + 2, Up: file})
	}
}

// P51: what is written in a file's data is there, by whichever way it is asked; Change stays, until it is told.
func TestData(t *testing.T) {
	x := table(t, 2)
	h, other := add(t, x, api.File, api.Handle{}), add(t, x, api.File, api.Handle{Node: 1})
	d := held(t, x, h)
	if d.Size() != 0 || d.Blocks() != 0 {
		t.Errorf("%d bytes, %d blocks", d.Size(), d.Blocks())
	}
	if err := d.Write(100, "x"); err != nil {
		t.Fatal(err)
	}
	check(t, x, h, api.Attr{Kind: api.File, Size: 101})
	again := held(t, x, h)
	if s, end, err := again.Read(99, 2); s != "\x00x" || !end || err != nil {
		t.Errorf("%q, %v, %v", s, end, err)
	}
	if err := again.Resize(7); err != nil {
		t.Fatal(err)
	}
	if d.Size() != 7 {
		t.Errorf("%d bytes", d.Size())
	}
	check(t, x, h, api.Attr{Kind: api.File, Size: 7})
	check(t, x, other, api.Attr{Kind: api.File})
	if n := held(t, x, other).Size(); n != 0 {
		t.Errorf("%d bytes of another file", n)
	}
}

// P51: a table that gets more nodes keeps the data where they were.
func TestDataStay(t *testing.T) {
	x := table(t, api.MaxNodes)
	h := add(t, x, api.File, api.Handle{})
	d := held(t, x, h)
	for i := range api.MaxNodes - 1 {
		add(t, x, 1+i%2, api.Handle{Node: i + 1})
	}
	if err := d.Write(0, "abcd"); err != nil {
		t.Fatal(err)
	}
	check(t, x, h, api.Attr{Kind: api.File, Size: 4})
}

// P51: a directory has none.
func TestDataOfDir(t *testing.T) {
	x := table(t, 2)
	h := add(t, x, api.Dir, api.Handle{})
	set(t, x, h, 3, 2, h)
	d, err := x.Data(h)
	if d != nil {
		t.Error("data beside an error")
	}
	checkErr(t, err, api.ErrFile)
	check(t, x, h, api.Attr{Kind: api.Dir, Size: 3, Links: 2, Change: 1, Up: h})
}

// P51: no node that is there: a number that was never given, none of the table's, or of another Gen.
func TestStale(t *testing.T) {
	x := table(t, 3)
	for i := range 2 {
		add(t, x, 1+i, api.Handle{Node: i})
	}
	for _, h := range []api.Handle{
		{Node: 2}, {Node: 3}, {Node: 300}, {Node: -1}, {Node: math.MinInt}, {Node: math.MaxInt}, {Node: 1 << 32},
		{Gen: 1}, {Gen: -1}, {Node: 1, Gen: 1}, {Node: 1, Gen: -1}, {Gen: math.MaxInt}, {Gen: math.MinInt}, {Gen: 1 << 32},
		{Node: 2, Gen: -1}, {Node: 2, Gen: 1}, {Node: -1, Gen: -1},
	} {
		checkStale(t, x, h)
	}
	check(t, x, api.Handle{}, api.Attr{Kind: api.File})
	check(t, x, api.Handle{Node: 1}, api.Attr{Kind: api.Dir})
}

// P52: what is freed is gone, once; the data that somebody still has are nobody's.
func TestFree(t *testing.T) {
	x := table(t, 2)
	h := add(t, x, api.File, api.Handle{})
	add(t, x, api.Dir, api.Handle{Node: 1})
	d := held(t, x, h)
	free(t, x, h)
	checkCount(t, x, 1)
	checkStale(t, x, h)
	next := add(t, x, api.File, api.Handle{Gen: 1})
	checkCount(t, x, 2)
	if err := d.Write(0, "lost"); err != nil {
		t.Fatal(err)
	}
	check(t, x, next, api.Attr{Kind: api.File})
	if n := held(t, x, next).Size(); n != 0 {
		t.Errorf("%d bytes", n)
	}
}

// P52: all of them can go, and all numbers can be given again.
func TestFreeAll(t *testing.T) {
	x := table(t, api.MaxNodes)
	for gen := range 4 {
		for i := range api.MaxNodes {
			add(t, x, 1+i%2, api.Handle{Node: i, Gen: gen})
		}
		checkCount(t, x, api.MaxNodes)
		for i := range api.MaxNodes {
			free(t, x, api.Handle{Node: i, Gen: gen})
		}
		checkCount(t, x, 0)
	}
}

// P53: a handle that is gone stays stale, however often its number is given again, and whatever is done there.
func TestGoneStaysStale(t *testing.T) {
	x := table(t, 2)
	add(t, x, api.Dir, api.Handle{})
	var gone []api.Handle
	for gen := range 60 {
		kind := 1 + gen/3%2
		h := add(t, x, kind, api.Handle{Node: 1, Gen: gen})
		for _, old := range gone {
			checkStale(t, x, old)
		}
		check(t, x, h, api.Attr{Kind: kind})
		checkStale(t, x, api.Handle{Node: 1, Gen: gen + 1})
		free(t, x, h)
		gone = append(gone, h)
		for _, old := range gone {
			checkStale(t, x, old)
		}
	}
}

// P2: tables of their own, worked on side by side, do not see each other.
func TestSideBySide(t *testing.T) {
	var group sync.WaitGroup
	for i := range 8 {
		x := table(t, 50)
		group.Go(func() {
			for n := range 50 {
				h, err := x.Add(api.Dir)
				if h != (api.Handle{Node: n}) || err != nil {
					t.Errorf("%v, %v", h, err)
				}
				if err := x.Set(h, i, n, h); err != nil {
					t.Error(err)
				}
			}
			for n := range 50 {
				h := api.Handle{Node: n}
				want := api.Attr{Kind: api.Dir, Size: i, Links: n, Change: 1, Up: h}
				if a, err := x.Attr(h); a != want || err != nil {
					t.Errorf("%v, %v; want %v", a, err, want)
				}
			}
		})
	}
	group.Wait()
}
