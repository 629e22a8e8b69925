package tree_test

import (
	"math"
	"math/rand"
	"slices"
	"strconv"
	"strings"
	"testing"

	"pigeonholes/api"
	"pigeonholes/tree"
	"pigeonholes/xdr"
)

// load must go well, and have the same snapshot.
func load(t *testing.T, s string, most int) *tree.Tree {
	t.Helper()
	x, err := tree.Load(s, most)
	if x == nil || err != nil {
		t.Fatalf("%q: %v", s, err)
	}
	if x.Snapshot() != s {
		t.Fatalf("%q is loaded as %q", s, x.Snapshot())
	}
	return x
}

// checkNone: a text is none.
func checkNone(t *testing.T, s string, most int) {
	t.Helper()
	x, err := tree.Load(s, most)
	if x != nil {
		t.Errorf("%q: a tree beside %v", s, err)
	}
	checkErr(t, err, api.ErrText)
}

// checkSound: what P60 to P66 say of any tree whose files are not pinned, by what can be asked.
func checkSound(t *testing.T, x *tree.Tree) {
	t.Helper()
	links := map[api.Handle]int{}
	dirs, ups := []api.Handle{x.Root()}, []api.Handle{x.Root()}
	for i := 0; i < len(dirs) && i <= api.MaxNodes; i++ {
		l, next, err := x.List(dirs[i], 0, 1000)
		if next != len(l) || len(l) > api.MaxEntries || err != nil {
			t.Fatal(dirs[i], l, next, err)
		}
		below := 0
		for _, e := range l {
			links[e.H]++
			a, err := x.Attr(e.H)
			if err != nil {
				t.Fatal(e, err)
			}
			if a.Kind == api.Dir {
				below++
				dirs, ups = append(dirs, e.H), append(ups, dirs[i])
			}
		}
		if a, err := x.Attr(dirs[i]); a.Kind != api.Dir || a.Size != len(l) || a.Links != 2+below || a.Up != ups[i] || a.Change < 0 || err != nil {
			t.Fatal(dirs[i], a, err)
		}
	}
	for h, n := range links {
		a, _ := x.Attr(h)
		if a.Kind == api.File && (a.Links != n || n > api.MaxLinks || a.Size < 0 || a.Size > api.MaxFile) || a.Kind == api.Dir && n != 1 {
			t.Fatal(h, a, n)
		}
	}
	if links[x.Root()] > 0 || x.Nodes() != len(links)+1 {
		t.Fatal(x.Nodes(), links)
	}
}

// garden is a tree with all that there can be in one: deep directories and empty ones, links, holes, pins, numbers that are free.
func garden(t *testing.T) *tree.Tree {
	t.Helper()
	x := grow(t, 30)
	d := create(t, x, root, "d", api.Dir)
	e := create(t, x, d, "e", api.Dir)
	create(t, x, root, "empty", api.Dir)
	f := create(t, x, e, "f", api.File)
	well(t, x.Link(f, root, strings.Repeat("n", api.MaxName)))
	well(t, x.Link(f, d, "f"))
	well(t, x.Write(f, 100, "abc"))
	well(t, x.Write(f, 1000, strings.Repeat("\x00", 65)))
	well(t, x.Resize(f, 2000))
	create(t, x, root, "zero", api.File)
	gone := create(t, x, root, "gone", api.File)
	well(t, x.Write(gone, 0, "gone"))
	well(t, x.Remove(root, "gone"))
	whole := create(t, x, d, "whole", api.File)
	well(t, x.Write(whole, 0, strings.Repeat("x", api.MaxFile)))
	well(t, x.Rename(root, "empty", d, "moved"))
	p := create(t, x, root, "p", api.File)
	well(t, x.Write(p, 0, "pinned"))
	well(t, x.Pin(p))
	well(t, x.Pin(whole))
	last := create(t, x, root, "last", api.Dir)
	create(t, x, last, "inner", api.File)
	well(t, x.Remove(last, "inner"))
	well(t, x.Remove(root, "p"))
	return x
}

// P65: the tree is the same behind Load, by all that can be asked; so is its snapshot.
func TestSnapshotAndLoad(t *testing.T) {
	x := garden(t)
	y := load(t, x.Snapshot(), 30)
	checkSound(t, y)
	for _, path := range [][]string{nil, {"d"}, {"d", "e"}, {"d", "e", "f"}, {"d", "moved"}, {"d", "whole"}, {"zero"}, {"last"}} {
		h, err := x.Walk(path)
		well(t, err)
		if got, err := y.Walk(path); got != h || err != nil {
			t.Errorf("%q: %v, %v; want %v", path, got, err, h)
		}
		a, _ := x.Attr(h)
		check(t, y, h, a)
		if a.Kind == api.File {
			s, _, _ := x.Read(h, 0, api.MaxFile)
			if got, end, err := y.Read(h, 0, api.MaxFile); got != s || !end || err != nil {
				t.Errorf("%q: %d bytes, %v, %v", path, len(got), end, err)
			}
			continue
		}
		l, _, _ := x.List(h, 0, 100)
		checkList(t, y, h, l...)
	}
	if y.Nodes() != x.Nodes()-1 { // p is not in it
		t.Error(y.Nodes(), x.Nodes())
	}
}

// P65: numbers that were given, and are free, go on behind Load; also that of a pinned file without links, which is not in it.
func TestLoadedNumbersGoOn(t *testing.T) {
	x := grow(t, 10)
	for i := range 5 {
		create(t, x, root, strconv.Itoa(i), api.File)
	}
	for _, i := range []int{1, 3, 4} {
		h, _ := x.Lookup(root, strconv.Itoa(i))
		if i != 4 {
			well(t, x.Pin(h))
		}
		well(t, x.Remove(root, strconv.Itoa(i)))
	}
	well(t, x.Unpin(api.Handle{Node: 4})) // what was number 3 is gone; number 1 is pinned still
	if h := create(t, x, root, "3", api.File); h != (api.Handle{Node: 4, Gen: 1}) {
		t.Fatal(h)
	}
	y := load(t, x.Snapshot(), 10)
	if x.Nodes() != 5 || y.Nodes() != 4 {
		t.Error(x.Nodes(), y.Nodes())
	}
	checkGone(t, y, api.Handle{Node: 2})
	for i, want := range []api.Handle{{Node: 2, Gen: 1}, {Node: 5, Gen: 1}, {Node: 6}} {
		if h := create(t, y, root, "n"+strconv.Itoa(i), api.File); h != want {
			t.Errorf("%v; want %v", h, want)
		}
	}
}

// P65: pins are not in it: behind Load a file is not pinned.
func TestLoadedIsNotPinned(t *testing.T) {
	x := grow(t, 5)
	f := create(t, x, root, "f", api.File)
	old := x.Snapshot()
	well(t, x.Pin(f))
	if x.Snapshot() != old {
		t.Error("a pin shows")
	}
	y := load(t, old, 5)
	unchanged(t, y, api.ErrNone, func() error { return y.Unpin(f) })
	well(t, y.Remove(root, "f"))
	checkGone(t, y, f)
}

// P65: what holes there are is the same behind Load: a snapshot has room for blocks that are none.
func TestHolesLast(t *testing.T) {
	x := grow(t, 5)
	f, g := create(t, x, root, "f", api.File), create(t, x, root, "g", api.File)
	well(t, x.Write(f, 0, strings.Repeat("\x00", 640)))
	well(t, x.Resize(g, 640))
	a := load(t, x.Snapshot(), 5)
	well(t, a.Remove(root, "g"))
	b := load(t, x.Snapshot(), 5)
	well(t, b.Remove(root, "f"))
	if len(a.Snapshot()) <= len(b.Snapshot())+600 {
		t.Error(len(a.Snapshot()), len(b.Snapshot()))
	}
}

// checkRoom: P65's bound, of nodes, of numbers that are free, of entries, and of blocks that are no holes.
func checkRoom(t *testing.T, x *tree.Tree, free, entries, blocks int) {
	t.Helper()
	if n, most := len(x.Snapshot()), 100*(x.Nodes()+free)+100*entries+80*blocks; n > most {
		t.Errorf("%d bytes for %d nodes, %d free numbers, %d entries, %d blocks: more than %d", n, x.Nodes(), free, entries, blocks, most)
	}
}

// P65: how many bytes a snapshot has at most, where one part outweighs all others.
func TestSnapshotRoom(t *testing.T) {
	checkRoom(t, grow(t, 1), 0, 0, 0)

	x := grow(t, api.MaxNodes)
	d := root
	for i := range api.MaxNodes - 1 {
		if i%50 == 0 {
			d = create(t, x, d, "dir", api.Dir)
		} else {
			create(t, x, d, strings.Repeat("n", 20)+strconv.Itoa(i), api.File)
		}
	}
	checkRoom(t, x, 0, 299, 0)

	x = grow(t, api.MaxNodes)
	fill(t, x, root, api.MaxEntries)
	for i := range api.MaxEntries {
		well(t, x.Rename(root, strconv.Itoa(i), root, strings.Repeat("n", 22)+strconv.Itoa(10+i)))
	}
	checkRoom(t, x, 0, 60, 0)
	for i := range api.MaxEntries {
		well(t, x.Remove(root, strings.Repeat("n", 22)+strconv.Itoa(10+i)))
	}
	checkRoom(t, x, 8, 0, 0)

	x = grow(t, api.MaxNodes)
	for i := range 5 {
		f := create(t, x, root, strconv.Itoa(i), api.File)
		well(t, x.Write(f, 0, strings.Repeat("x", api.MaxFile)))
	}
	checkRoom(t, x, 0, 5, 5*64)
	h, _ := x.Lookup(root, "0")
	well(t, x.Pin(h))
	well(t, x.Remove(root, "0"))
	well(t, x.Resize(h, 0)) // it is not in it: its blocks are not either
	checkRoom(t, x, 0, 4, 4*64)
}

// P65: most is told ahead of the text.
func TestLoadBounds(t *testing.T) {
	s := garden(t).Snapshot()
	for _, most := range []int{0, -1, 301, math.MinInt, math.MaxInt, 1 << 32} {
		for _, s := range []string{"", "no tree", s} {
			x, err := tree.Load(s, most)
			if x != nil {
				t.Errorf("%d: a tree beside %v", most, err)
			}
			checkErr(t, err, api.ErrBound)
		}
	}
}

// P65: more nodes than most are ErrText; numbers that are free, or those that nodes have, are not how many there are.
func TestLoadMost(t *testing.T) {
	x := grow(t, 10)
	for i := range 7 {
		create(t, x, root, strconv.Itoa(i), api.File)
	}
	for _, i := range []int{0, 1, 3, 4, 6} {
		well(t, x.Remove(root, strconv.Itoa(i)))
	}
	s := x.Snapshot()
	for _, most := range []int{1, 2} {
		checkNone(t, s, most)
	}
	for _, most := range []int{3, 4, 10, 300} {
		checkSound(t, load(t, s, most))
	}
	y := load(t, s, 3)
	_, err := y.Create(root, "n", api.File)
	checkErr(t, err, api.ErrFull)
	well(t, y.Remove(root, "5"))
	if h := create(t, y, root, "n", api.File); h != (api.Handle{Node: 1, Gen: 1}) {
		t.Error(h)
	}
	_, err = y.Create(root, "m", api.File)
	checkErr(t, err, api.ErrFull)
	load(t, y.Snapshot(), 3)
}

// P65: no piece of a text is one, nor with something behind it.
func TestLoadPieces(t *testing.T) {
	s := garden(t).Snapshot()
	for i := range len(s) {
		checkNone(t, s[:i], 30)
		if i > 0 && i%4 == 0 {
			checkNone(t, s[i:], 30)
		}
	}
	for _, more := range []string{"\x00", "\x00\x00\x00\x00", "\x00\x00\x00\x00\x00\x00\x00\x00", s} {
		checkNone(t, s+more, 30)
	}
	checkNone(t, "", 1)
	checkNone(t, "no tree", 1)
	checkNone(t, strings.Repeat("\xff", 1000), 1)
	checkNone(t, strings.Repeat("\x00", 1000), 1)
}

// text of numbers, and of bytes, as a snapshot has them.
func text(t *testing.T, l ...any) string {
	t.Helper()
	s := ""
	for _, v := range l {
		w := &xdr.Writer{}
		switch v := v.(type) {
		case int:
			well(t, w.Long(v))
		case string:
			well(t, w.Bytes(v))
		}
		s += w.Text()
	}
	return s
}

// P65, P66: texts that have the form, and are none: what cannot be in a tree.
func TestLoadNone(t *testing.T) {
	const free, file, dir = 0, api.File, api.Dir
	entries := func(n int, kind int) []any {
		l := []any{1 + n, dir, 0, 0}
		for range n {
			l = append(l, kind, 0, 0)
		}
		l = append(l, n)
		for i := range n {
			l = append(l, "n"+strconv.Itoa(100+i), 1+i)
		}
		for range n {
			l = append(l, 0, 0)
		}
		return l
	}
	links := func(n int) []any {
		l := []any{2, dir, 0, 0, file, 0, 0, n}
		for i := range n {
			l = append(l, "n"+strconv.Itoa(i), 1)
		}
		return append(l, 0, 0)
	}
	held := func(l ...any) []any { return append([]any{2, dir, 0, 0, file, 0, 0, 1, "f", 1}, l...) }
	block := strings.Repeat("x", 64)
	for name, l := range map[string][]any{
		"no numbers":                     {0},
		"root is a file":                 {1, file, 0, 0, 0, 0},
		"root is free":                   {1, free, 1},
		"root is not the first":          {1, dir, 1, 0, 0},
		"a kind that is none":            {2, dir, 0, 0, 3, 0, 0, 1, "f", 1, 0, 0},
		"free, and never given":          {2, dir, 0, 0, free, 0, 0},
		"an entry of a free number":      {2, dir, 0, 0, free, 1, 1, "f", 1},
		"an entry of no number":          {2, dir, 0, 0, file, 0, 0, 1, "f", 2, 0, 0},
		"a file without an entry":        {2, dir, 0, 0, file, 0, 0, 0, 0, 0},
		"a directory without one":        {2, dir, 0, 0, dir, 0, 0, 0, 0},
		"a directory with two":           {2, dir, 0, 0, dir, 0, 0, 2, "a", 1, "b", 1, 0},
		"two of another directory":       {3, dir, 0, 0, dir, 0, 0, dir, 0, 0, 2, "a", 1, "b", 2, 1, "c", 2, 0},
		"root in itself":                 {1, dir, 0, 0, 1, "a", 0},
		"root in another one":            {2, dir, 0, 0, dir, 0, 0, 1, "a", 1, 1, "b", 0},
		"one above itself":               {2, dir, 0, 0, dir, 0, 0, 0, 1, "a", 1},
		"a ring":                         {3, dir, 0, 0, dir, 0, 0, dir, 0, 0, 0, 1, "a", 2, 1, "a", 1},
		"a ring of three, one beside it": {5, dir, 0, 0, dir, 0, 0, dir, 0, 0, dir, 0, 0, dir, 0, 0, 1, "a", 4, 1, "a", 2, 1, "a", 3, 1, "a", 1, 0},
		"no name":                        {2, dir, 0, 0, file, 0, 0, 1, "", 1, 0, 0},
		"a name that is none":            {2, dir, 0, 0, file, 0, 0, 1, "..", 1, 0, 0},
		"a name that is too long":        {2, dir, 0, 0, file, 0, 0, 1, strings.Repeat("n", 25), 1, 0, 0},
		"names that fall":                {2, dir, 0, 0, file, 0, 0, 2, "b", 1, "a", 1, 0, 0},
		"a name twice":                   {2, dir, 0, 0, file, 0, 0, 2, "a", 1, "a", 1, 0, 0},
		"a name twice, of two":           {3, dir, 0, 0, file, 0, 0, file, 0, 0, 2, "a", 1, "a", 2, 0, 0, 0, 0},
		"too many entries":               entries(api.MaxEntries+1, file),
		"too many links":                 links(api.MaxLinks + 1),
		"too often given":                {2, dir, 0, 0, free, math.MaxInt, 0},
		"too often changed":              {1, dir, 0, math.MaxInt, 0},
		"a file that is too long":        held(api.MaxFile+1, 0),
		"a block too many":               held(64, 2, 0, block),
		"a block too few":                held(64, 0, 0, block),
		"a block behind the end":         held(64, 1, 1, block),
		"a block that is too short":      held(65, 1, 0, block[:63]),
		"one that is too long":           held(63, 1, 0, block),
		"far too long":                   held(33*64, 1, 0, strings.Repeat(block, 33)),
		"beyond all":                     held(api.MaxFile, 1, 63, block+block),
		"two pieces for one":             held(128, 2, 0, block, 1, block),
		"two that are cut too early":     held(40*64, 2, 0, strings.Repeat(block, 31), 31, strings.Repeat(block, 9)),
		"two that have a block in both":  held(192, 2, 0, block+block, 1, block+block),
		"of no bytes":                    held(64, 1, 0, ""),
		"behind all":                     held(api.MaxFile, 1, 64, block),
		"blocks that fall":               held(128, 2, 1, block, 0, block),
		"pieces that fall":               held(192, 2, 2, block, 0, block),
		"a block twice":                  held(128, 2, 0, block, 0, block),
		"too many blocks":                held(64, 65, 0, block),
	} {
		s := text(t, l...)
		x, err := tree.Load(s, api.MaxNodes)
		if x != nil || err != api.ErrText {
			t.Errorf("%s: %v", name, err)
		}
	}
	for name, l := range map[string][]any{
		"root alone":         {1, dir, 0, 0, 0},
		"changed":            {1, dir, 0, 1 << 60, 0},
		"a free number":      {2, dir, 0, 5, free, 1 << 60, 0},
		"a file":             held(0, 0),
		"all holes":          held(api.MaxFile, 0),
		"a block":            held(64, 1, 0, block),
		"a part of one":      held(70, 1, 0, block+"abcdef"),
		"a hole between":     held(150, 2, 0, block, 2, block[:22]),
		"a whole file":       held(api.MaxFile, 2, 0, strings.Repeat(block, 32), 32, strings.Repeat(block, 32)),
		"a piece and a half": held(api.MaxFile, 2, 1, strings.Repeat(block, 32), 33, block),
		"the last one":       held(api.MaxFile, 1, 63, block),
		"links":              links(api.MaxLinks),
		"files":              entries(api.MaxEntries, file),
		"upside down":        {4, dir, 0, 0, dir, 0, 0, free, 3, dir, 9, 0, 1, "a", 3, 0, 1, "b", 1},
		"an empty directory": {2, dir, 0, 1, dir, 0, 0, 1, "d", 1, 0},
	} {
		s := text(t, l...)
		x, err := tree.Load(s, api.MaxNodes)
		if x == nil || err != nil || x.Snapshot() != s {
			t.Errorf("%s: %v", name, err)
			continue
		}
		checkSound(t, x)
	}
	many := []any{301, dir, 0, 0}
	for range 300 {
		many = append(many, free, 1)
	}
	checkNone(t, text(t, append(many, 0)...), api.MaxNodes) // more numbers than can be given
	many[0] = 300
	load(t, text(t, append(slices.Delete(many, 4, 6), 0)...), 1)
}

// checkAnyText: it is none, or a tree that has it as its snapshot, and is sound; then that can be worked on.
func checkAnyText(t *testing.T, s string) {
	t.Helper()
	x, err := tree.Load(s, 40)
	if err != nil {
		if x != nil || err != api.ErrText {
			t.Fatalf("%q: %v", s, err)
		}
		return
	}
	if x.Snapshot() != s {
		t.Fatalf("%q is loaded as %q", s, x.Snapshot())
	}
	checkSound(t, x)
	h, err := x.Create(root, "new", api.File)
	if err == nil {
		well(t, x.Write(h, 3, "abc"))
	}
	l, _, _ := x.List(root, 0, 60)
	for _, e := range l {
		if e.Name != "new" {
			x.Rename(root, e.Name, root, "over")
			x.Remove(root, e.Name)
		}
	}
	checkSound(t, x)
	checkSound(t, load(t, x.Snapshot(), 40))
}

// P1, P65: texts that are nearly right, by changes of their words.
func TestLoadOfNearlyRight(t *testing.T) {
	r := rand.New(rand.NewSource(65))
	whole := garden(t)
	well(t, whole.Remove(api.Handle{Node: 1}, "whole"))
	texts := []string{whole.Snapshot(), grow(t, 3).Snapshot()}
	for range 20000 {
		s := []byte(texts[r.Intn(len(texts))])
		for range 1 + r.Intn(3) {
			at := r.Intn(len(s)/4) * 4
			switch r.Intn(4) {
			case 0:
				s[at+3] = byte(r.Intn(6))
			case 1:
				s[r.Intn(len(s))] ^= 1 << r.Intn(8)
			case 2:
				from := r.Intn(len(s)/4) * 4
				copy(s[at:at+4], s[from:])
			case 3:
				s = slices.Insert(s, at, s[at:min(len(s), at+4*r.Intn(5))]...)
			}
		}
		checkAnyText(t, string(s))
	}
}

// FuzzLoad takes any text.
func FuzzLoad(f *testing.F) {
	x, err := tree.New(5)
	if err != nil {
		f.Fatal(err)
	}
	f.Add("")
	f.Add(x.Snapshot())
	d, _ := x.Create(root, "d", api.Dir)
	h, _ := x.Create(d, "f", api.File)
	x.Link(h, root, "g")
	x.Write(h, 100, "abc")
	f.Add(x.Snapshot())
	x.Remove(d, "f")
	x.Remove(root, "g")
	f.Add(x.Snapshot())
	f.Fuzz(checkAnyText)
}
