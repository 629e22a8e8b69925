package tree_test

import (
	"math/rand"
	"slices"
	"strings"
	"testing"

	"pigeonholes/api"
	"pigeonholes/data"
	"pigeonholes/names"
	"pigeonholes/tree"
)

// thing is a node as P60 to P64 have it, there or gone.
type thing struct {
	h            api.Handle
	kind, change int
	pins         int
	there        bool
	held         data.Data
}

// entry of one thing, in another one.
type entry struct {
	dir  *thing
	name string
	of   *thing
}

// book of a tree: all things that ever were, and a list of entries. All else is counted there, when it is asked for.
type book struct {
	most    int
	things  []*thing
	entries []entry
}

func newBook(most int) *book {
	return &book{most: most, things: []*thing{{kind: api.Dir, there: true}}}
}

func (b *book) find(h api.Handle) *thing {
	for _, x := range b.things {
		if x.h == h && x.there {
			return x
		}
	}
	return nil
}

func (b *book) at(dir *thing, name string) int {
	return slices.IndexFunc(b.entries, func(e entry) bool { return e.dir == dir && e.name == name })
}

// count entries.
func (b *book) count(is func(e entry) bool) (n int) {
	for _, e := range b.entries {
		if is(e) {
			n++
		}
	}
	return n
}

func (b *book) size(dir *thing) int { return b.count(func(e entry) bool { return e.dir == dir }) }
func (b *book) links(of *thing) int { return b.count(func(e entry) bool { return e.of == of }) }
func (b *book) below(dir *thing) int {
	return b.count(func(e entry) bool { return e.dir == dir && e.of.kind == api.Dir })
}

func (b *book) up(dir *thing) *thing {
	for _, e := range b.entries {
		if e.of == dir {
			return e.dir
		}
	}
	return b.things[0]
}

func (b *book) attr(x *thing) api.Attr {
	if x.kind == api.File {
		return api.Attr{Kind: api.File, Size: x.held.Size(), Links: b.links(x), Change: x.change}
	}
	return api.Attr{Kind: api.Dir, Size: b.size(x), Links: 2 + b.below(x), Change: x.change, Up: b.up(x).h}
}

func (b *book) list(dir *thing) (l []api.Entry) {
	for _, e := range b.entries {
		if e.dir == dir {
			l = append(l, api.Entry{Name: e.name, H: e.of.h})
		}
	}
	slices.SortFunc(l, func(a, b api.Entry) int { return strings.Compare(a.Name, b.Name) })
	return l
}

func (b *book) nodes() (n int) {
	for _, x := range b.things {
		if x.there {
			n++
		}
	}
	return n
}

// next handle: the least number that nothing has which is there.
func (b *book) next() api.Handle {
	for i := 0; ; i++ {
		used, gen := false, 0
		for _, x := range b.things {
			if x.h.Node == i {
				used, gen = used || x.there, gen+1
			}
		}
		if !used {
			return api.Handle{Node: i, Gen: gen}
		}
	}
}

// dir by a handle, with what holds for all calls.
func (b *book) dir(h api.Handle) (*thing, error) {
	x := b.find(h)
	if x == nil {
		return nil, api.ErrStale
	}
	if x.kind != api.Dir {
		return nil, api.ErrDir
	}
	return x, nil
}

func (b *book) file(h api.Handle) (*thing, error) {
	x := b.find(h)
	if x == nil {
		return nil, api.ErrStale
	}
	if x.kind != api.File {
		return nil, api.ErrFile
	}
	return x, nil
}

func (b *book) create(dir api.Handle, name string, kind int) (api.Handle, error) {
	d, err := b.dir(dir)
	switch {
	case err != nil:
		return api.Handle{}, err
	case names.Check(name) != nil:
		return api.Handle{}, api.ErrName
	case kind != api.File && kind != api.Dir:
		return api.Handle{}, api.ErrShape
	case b.at(d, name) >= 0:
		return api.Handle{}, api.ErrExist
	case b.size(d) == api.MaxEntries || b.nodes() == b.most:
		return api.Handle{}, api.ErrFull
	}
	x := &thing{h: b.next(), kind: kind, there: true}
	b.things = append(b.things, x)
	b.entries = append(b.entries, entry{d, name, x})
	d.change++
	return x.h, nil
}

func (b *book) link(h, dir api.Handle, name string) error {
	x := b.find(h)
	if x == nil {
		return api.ErrStale
	}
	d, err := b.dir(dir)
	switch {
	case err != nil:
		return err
	case names.Check(name) != nil:
		return api.ErrName
	case x.kind == api.Dir:
		return api.ErrFile
	case b.at(d, name) >= 0:
		return api.ErrExist
	case b.size(d) == api.MaxEntries || b.links(x) == api.MaxLinks:
		return api.ErrFull
	}
	b.entries = append(b.entries, entry{d, name, x})
	d.change++
	x.change++
	return nil
}

func (b *book) remove(dir api.Handle, name string) error {
	d, err := b.dir(dir)
	if err != nil {
		return err
	}
	if names.Check(name) != nil {
		return api.ErrName
	}
	i := b.at(d, name)
	if i < 0 {
		return api.ErrNone
	}
	if b.size(b.entries[i].of) > 0 {
		return api.ErrHeld
	}
	b.cross(i)
	d.change++
	return nil
}

// cross an entry out; what has none goes, unless it is pinned.
func (b *book) cross(i int) {
	x := b.entries[i].of
	b.entries = slices.Delete(b.entries, i, i+1)
	x.change++
	x.there = b.links(x) > 0 || x.pins > 0
}

func (b *book) rename(from api.Handle, old string, to api.Handle, name string) error {
	d, err := b.dir(from)
	if err != nil {
		return err
	}
	e, err := b.dir(to)
	if err != nil {
		return err
	}
	if names.Check(old) != nil || names.Check(name) != nil {
		return api.ErrName
	}
	i := b.at(d, old)
	if i < 0 {
		return api.ErrNone
	}
	x := b.entries[i].of
	for y := e; ; y = b.up(y) {
		if y == x {
			return api.ErrShape
		}
		if y == b.things[0] {
			break
		}
	}
	if j := b.at(e, name); j >= 0 {
		y := b.entries[j].of
		switch {
		case y == x:
			return nil
		case x.kind == api.File && y.kind == api.Dir:
			return api.ErrDir
		case x.kind == api.Dir && y.kind == api.File:
			return api.ErrFile
		case b.size(y) > 0:
			return api.ErrHeld
		}
		b.cross(j)
	} else if d != e && b.size(e) == api.MaxEntries {
		return api.ErrFull
	}
	b.entries[b.at(d, old)] = entry{e, name, x}
	d.change++
	if d != e {
		e.change++
	}
	return nil
}

func (b *book) write(h api.Handle, at int, s string) error {
	x, err := b.file(h)
	if err != nil {
		return err
	}
	if err := x.held.Write(at, s); err != nil {
		return err
	}
	if len(s) > 0 {
		x.change++
	}
	return nil
}

func (b *book) resize(h api.Handle, n int) error {
	x, err := b.file(h)
	if err != nil {
		return err
	}
	if err := x.held.Resize(n); err != nil {
		return err
	}
	x.change++
	return nil
}

func (b *book) pin(h api.Handle) error {
	x, err := b.file(h)
	if err == nil {
		x.pins++
	}
	return err
}

func (b *book) unpin(h api.Handle) error {
	x, err := b.file(h)
	if err != nil {
		return err
	}
	if x.pins == 0 {
		return api.ErrNone
	}
	x.pins--
	x.there = b.links(x) > 0 || x.pins > 0
	return nil
}

// forget what no snapshot has: pins, and what only they hold.
func (b *book) forget() {
	for _, x := range b.things[1:] {
		x.pins = 0
		x.there = x.there && b.links(x) > 0
	}
}

// holdAgainst all that the book knows.
func holdAgainst(t *testing.T, x *tree.Tree, b *book) {
	t.Helper()
	if x.Nodes() != b.nodes() {
		t.Fatalf("%d nodes; want %d", x.Nodes(), b.nodes())
	}
	free, blocks := map[int]int{}, 0
	for _, y := range b.things {
		a, err := x.Attr(y.h)
		if !y.there {
			free[y.h.Node] = 1
			if err != api.ErrStale || a != (api.Attr{}) {
				t.Fatalf("%v: %v, %v; it is gone", y.h, a, err)
			}
			continue
		}
		if want := b.attr(y); a != want || err != nil {
			t.Fatalf("%v: %v, %v; want %v", y.h, a, err, want)
		}
		if y.kind == api.Dir {
			l, next, err := x.List(y.h, 0, 100)
			if !slices.Equal(l, b.list(y)) || next != len(l) || err != nil {
				t.Fatalf("%v: %v, %d, %v; want %v", y.h, l, next, err, b.list(y))
			}
			continue
		}
		want, _, _ := y.held.Read(0, api.MaxFile)
		if s, end, err := x.Read(y.h, 0, api.MaxFile); s != want || !end || err != nil {
			t.Fatalf("%v: %q, %v, %v; want %q", y.h, s, end, err, want)
		}
		if b.links(y) > 0 {
			blocks += y.held.Blocks()
		}
	}
	for _, y := range b.things {
		if y.there {
			delete(free, y.h.Node)
		}
	}
	checkRoom(t, x, len(free), len(b.entries), blocks)
}

// call of a tree and of its book.
type call struct {
	what   int
	h, dir api.Handle
	old    string
	name   string
	at, n  int
}

func (c call) do(t *testing.T, x *tree.Tree, b *book) {
	t.Helper()
	var got, want error
	switch c.what % 10 {
	case 0, 1:
		var h, y api.Handle
		h, got = x.Create(c.dir, c.name, c.n)
		y, want = b.create(c.dir, c.name, c.n)
		if h != y {
			t.Fatalf("%v: %v; want %v", c, h, y)
		}
	case 2:
		got, want = x.Link(c.h, c.dir, c.name), b.link(c.h, c.dir, c.name)
	case 3:
		got, want = x.Remove(c.dir, c.name), b.remove(c.dir, c.name)
	case 4, 5:
		got, want = x.Rename(c.h, c.old, c.dir, c.name), b.rename(c.h, c.old, c.dir, c.name)
	case 6:
		s := strings.Repeat("x", max(c.n, 0))
		got, want = x.Write(c.h, c.at, s), b.write(c.h, c.at, s)
	case 7:
		got, want = x.Resize(c.h, c.at), b.resize(c.h, c.at)
	case 8:
		got, want = x.Pin(c.h), b.pin(c.h)
	case 9:
		got, want = x.Unpin(c.h), b.unpin(c.h)
	}
	if got != want {
		t.Fatalf("%v: %v; want %v", c, got, want)
	}
}

// P60 to P66: after any calls, and any Load between them, all that ever was is as the book has it.
func TestAsTheBook(t *testing.T) {
	some := []string{"a", "b", "c", "d", "a", "b", "c", "d", "..", ""}
	for seed := range int64(400) {
		r := rand.New(rand.NewSource(seed))
		most := 1 + r.Intn(12)
		x, b := grow(t, most), newBook(most)
		handle := func() api.Handle {
			if r.Intn(15) > 0 {
				return b.things[r.Intn(len(b.things))].h
			}
			return api.Handle{Node: r.Intn(most+2) - 1, Gen: r.Intn(4) - 1}
		}
		dir := func() api.Handle {
			for range 20 {
				if y := b.find(handle()); y != nil && y.kind == api.Dir && r.Intn(8) > 0 {
					return y.h
				}
			}
			return handle()
		}
		for range 150 {
			c := call{r.Intn(10), handle(), dir(), some[r.Intn(len(some))], some[r.Intn(len(some))], r.Intn(300) - 1, r.Intn(5) - 1}
			if c.what == 4 {
				c.h = dir()
			}
			c.do(t, x, b)
			holdAgainst(t, x, b)
			if r.Intn(20) == 0 {
				x = load(t, x.Snapshot(), most)
				b.forget()
				holdAgainst(t, x, b)
				checkSound(t, x)
			}
		}
	}
}

// P61, P62: the same in a tree that is full of entries and links.
func TestAsTheBookInAFullTree(t *testing.T) {
	r := rand.New(rand.NewSource(66))
	x, b := grow(t, 20), newBook(20)
	var l []string
	for i := range 70 {
		l = append(l, "n"+string(rune('0'+i%10))+string(rune('0'+i/10)))
	}
	for i := range 2500 {
		h, dir := b.things[r.Intn(len(b.things))].h, b.things[r.Intn(min(3, len(b.things)))].h
		c := call{2, h, dir, l[r.Intn(len(l))], l[r.Intn(len(l))], 0, api.File}
		switch {
		case i < 2:
			c.what, c.n = 0, api.Dir
		case r.Intn(3) == 0:
			c.what, c.h = 3+r.Intn(2), b.things[r.Intn(min(3, len(b.things)))].h
		case r.Intn(3) == 0:
			c.what = 0
		}
		c.do(t, x, b)
		if i%50 == 0 {
			holdAgainst(t, x, b)
		}
	}
	holdAgainst(t, x, b)
	checkSound(t, load(t, x.Snapshot(), 20))
}

// FuzzTree takes five bytes for each call: what it is, of which handles, with which names, and two numbers.
func FuzzTree(f *testing.F) {
	for _, s := range []string{"", "\x00\x00\x01\x02\x00", "\x00\x00\x01\x01\x00\x06\x10\x00\x05\x64\x08\x10\x00\x00\x00\x03\x00\x01\x00\x00\x09\x10\x00\x00\x00", "\x00\x00\x01\x02\x00\x00\x01\x02\x02\x00\x04\x00\x12\x00\x00\x0a\x00\x00\x00\x00"} {
		f.Add(s)
	}
	some := []string{"a", "b", "c", "d", "e", "f", "..", ""}
	f.Fuzz(func(t *testing.T, s string) {
		x, b := grow(t, 6), newBook(6)
		handle := func(i byte) api.Handle {
			if n := int(i & 15); n < len(b.things) {
				return b.things[n].h
			}
			return api.Handle{Node: int(i&15) - 8, Gen: len(b.things)}
		}
		for len(s) >= 5 && len(s) <= 500 {
			c := call{int(s[0]), handle(s[1] >> 4), handle(s[1]), some[s[2]>>4&7], some[s[2]&7], int(s[4])*17 - 1, int(s[3]) - 1}
			c.do(t, x, b)
			holdAgainst(t, x, b)
			if s[0]/10%2 == 1 {
				x = load(t, x.Snapshot(), 6)
				b.forget()
				holdAgainst(t, x, b)
			}
			s = s[5:]
		}
	})
}
