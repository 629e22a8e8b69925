package serve_test

import (
	"math"
	"reflect"
	"sync"
	"testing"

	"pigeonholes/api"
	"pigeonholes/attr"
	"pigeonholes/serve"
)

// P110: tree.New's error.
func TestNew(t *testing.T) {
	for _, most := range []int{math.MinInt, -1, 0, api.MaxNodes + 1, math.MaxInt} {
		if s, err := serve.New(most); s != nil || err != api.ErrBound {
			t.Error(most, s, err)
		}
	}
	for _, most := range []int{1, 2, api.MaxNodes} {
		s := begin(t, most)
		if s.Tree() == nil || s.Tree().Nodes() != 1 {
			t.Error(most, s.Tree())
		}
		checkOpens(t, s)
		checkLocks(t, s)
		for range 3 {
			fails(t, s, api.ErrNone, renew(1))
		}
	}
	s := begin(t, 2)
	well(t, s, root, file("a"))
	fails(t, s, api.ErrFull, root, file("b"))
}

// P110: at most MaxOps; of more nothing is done, whatever they are.
func TestHowManyOps(t *testing.T) {
	s := begin(t, 300)
	for _, l := range [][]op{nil, {}} {
		if r, err := s.Compound(l); len(r) != 0 || err != nil {
			t.Error(r, err)
		}
	}
	l := []op{root}
	for len(l) < api.MaxOps {
		l = append(l, dir("d"))
	}
	if r := do(t, s, l...); len(r) != 16 {
		t.Error(r)
	}
	before := look(s)
	for _, n := range []int{api.MaxOps + 1, api.MaxOps + 2, 1000} {
		for _, first := range [][]op{{root, file("x")}, {{Kind: "what"}}} {
			l := make([]op, n)
			copy(l, first)
			if r, err := s.Compound(l); len(r) != 0 || err != api.ErrBound {
				t.Error(n, r, err)
			}
		}
	}
	if !reflect.DeepEqual(before, look(s)) {
		t.Error(before, look(s))
	}
}

// P110: op by op until one has an error, whose reply is the last one; what was done ahead of it stays, what is behind is not done.
func TestUntilAnError(t *testing.T) {
	s := begin(t, 300)
	r := do(t, s, root, file("a"), root, file("a"), root, file("b"))
	if len(r) != 4 || r[3].Code != 6 {
		t.Error(r)
	}
	well(t, s, at("a")...)
	fails(t, s, api.ErrNone, at("b")...)
	r = do(t, s, op{}, root)
	if len(r) != 1 || !same(r[0], reply{Code: 1}) {
		t.Error(r)
	}
}

// P110, P111: the registers are empty at first, in each compound, whatever the one ahead left in them.
func TestRegistersAreEmptyAtFirst(t *testing.T) {
	s := begin(t, 300)
	for range 2 {
		fails(t, s, api.ErrShape, handle)
		fails(t, s, api.ErrShape, root, restore)
		well(t, s, root, save, restore)
	}
	r := do(t, s, root, file("a"), op{})
	if len(r) != 3 {
		t.Error(r)
	}
	fails(t, s, api.ErrShape, handle)
}

// wild numbers and texts, which nothing goes with.
var wild = op{Name: "..", Text: "//", A: -1, B: math.MinInt, C: math.MaxInt, Client: -7, State: state{ID: -1, Seq: -1}}

// P111: where a register that is needed is empty, it is ErrShape ahead of all else: whatever the op bears, and with nobody confirmed.
func TestEmptyRegisters(t *testing.T) {
	s := begin(t, 300)
	for _, kind := range []string{"save", "restore", "lookup", "up", "make", "link", "remove", "rename", "list", "attr", "handle", "open", "read", "write", "resize"} {
		for _, x := range []op{{}, wild} {
			x.Kind = kind
			fails(t, s, api.ErrShape, x)
		}
	}
	for _, kind := range []string{"restore", "link", "rename"} {
		for _, x := range []op{{}, wild} {
			x.Kind = kind
			fails(t, s, api.ErrShape, root, x)
		}
	}
	for kind, want := range map[string]error{"client": api.ErrName, "confirm": api.ErrNone, "renew": api.ErrNone, "close": api.ErrNone, "down": api.ErrNone, "lock": api.ErrNone, "test": api.ErrNone, "unlock": api.ErrNone} {
		x := wild
		x.Kind = kind
		fails(t, s, want, x)
	}
}

// P111: another Kind is ErrText, with registers and without, whatever it bears.
func TestNoKind(t *testing.T) {
	s := begin(t, 300)
	for _, kind := range []string{"", " ", "Root", "ROOT", "root ", " root", "roots", "create", "tick", "what", "open\x00", "lock\n", "ü"} {
		for _, x := range []op{{}, wild} {
			x.Kind = kind
			fails(t, s, api.ErrText, x)
			fails(t, s, api.ErrText, root, save, x)
		}
	}
}

// P111: root, handle, save and restore.
func TestRegisters(t *testing.T) {
	s := begin(t, 300)
	r := do(t, s, handlesOf(root, file("a"), root, dir("d"), save, file("b"), restore, up)...)
	want := []api.Handle{{}, {Node: 1}, {}, {Node: 2}, {Node: 2}, {Node: 3}, {Node: 2}, {}}
	for i, x := range r {
		if i%2 == 0 && !same(x, reply{}) || i%2 == 1 && !same(x, reply{H: want[i/2]}) {
			t.Errorf("%d: %+v", i, x)
		}
	}
	if len(r) != 16 {
		t.Error(r)
	}
	r = do(t, s, root, lookup("d"), save, root, save, restore, handle)
	if len(r) != 7 || r[6].H != (api.Handle{}) {
		t.Error("what is saved last is saved:", r)
	}
}

// handlesOf: each op, and then which handle is current.
func handlesOf(l ...op) []op {
	var all []op
	for _, x := range l {
		all = append(all, x, handle)
	}
	return all
}

// P111: lookup and up, and the tree's errors; behind an error nothing is current anew, as nothing comes behind it.
func TestLookupUp(t *testing.T) {
	s := begin(t, 300)
	well(t, s, root, dir("d"), dir("e"), file("f"))
	answers(t, s, reply{H: api.Handle{Node: 3}}, at("d/e/f", handle)...)
	answers(t, s, reply{H: api.Handle{Node: 1}}, at("d/e", up, handle)...)
	answers(t, s, reply{}, at("d/e", up, up, up, up, handle)...)
	fails(t, s, api.ErrDir, at("d/e/f", up)...)
	fails(t, s, api.ErrDir, at("d/e/f", lookup(".."))...)
	fails(t, s, api.ErrName, at("d", lookup(".."))...)
	fails(t, s, api.ErrName, at("d", lookup(""))...)
	fails(t, s, api.ErrNone, at("d", lookup("f"))...)
	for _, x := range []op{up, lookup("a")} {
		well(t, s, root, dir("gone"))
		answers(t, s, reply{Code: 10}, root, lookup("gone"), save, root, remove("gone"), restore, x)
	}
}

// P111: make: the new one is current.
func TestMake(t *testing.T) {
	s := begin(t, 4)
	answers(t, s, reply{H: api.Handle{Node: 1}}, root, dir("d"), handle)
	answers(t, s, reply{H: api.Handle{Node: 2}}, at("d", file("f"), handle)...)
	for _, kind := range []int{math.MinInt, -1, 0, 3, math.MaxInt} {
		fails(t, s, api.ErrShape, at("d", op{Kind: "make", Name: "f", A: kind})...)
	}
	fails(t, s, api.ErrExist, at("d", dir("f"))...)
	fails(t, s, api.ErrName, at("d", dir("."))...)
	fails(t, s, api.ErrDir, at("d/f", file("x"))...)
	well(t, s, root, file("g"))
	fails(t, s, api.ErrFull, root, file("h"))
	well(t, s, root, remove("g"))
	answers(t, s, reply{H: api.Handle{Node: 3, Gen: 1}}, root, file("h"), handle)
}

// P111: link: SAVED into CUR; rename: Name in SAVED, Text in CUR; remove. What is current stays so.
func TestNames(t *testing.T) {
	s := begin(t, 300)
	well(t, s, root, dir("d"), root, file("f"))
	link := func(name string) op { return op{Kind: "link", Name: name} }
	rename := func(old, name string) op { return op{Kind: "rename", Name: old, Text: name} }
	d, f := api.Handle{Node: 1}, api.Handle{Node: 2}
	answers(t, s, reply{H: d}, root, lookup("f"), save, root, lookup("d"), link("g"), handle)
	answers(t, s, reply{H: f}, at("d/g", handle)...)
	fails(t, s, api.ErrExist, root, lookup("f"), save, root, lookup("d"), link("g"))
	fails(t, s, api.ErrFile, root, lookup("d"), save, root, link("x"))
	fails(t, s, api.ErrDir, root, lookup("d"), save, root, lookup("f"), link("x"))
	fails(t, s, api.ErrName, root, lookup("f"), save, root, link("/"))

	answers(t, s, reply{H: d}, root, save, lookup("d"), rename("f", "h"), handle)
	fails(t, s, api.ErrNone, at("f")...)
	answers(t, s, reply{H: f}, at("d/h", handle)...)
	fails(t, s, api.ErrNone, root, save, lookup("d"), rename("f", "h"))
	fails(t, s, api.ErrShape, root, save, lookup("d"), rename("d", "x"))
	fails(t, s, api.ErrName, root, save, lookup("d"), rename("d", ""))
	fails(t, s, api.ErrName, root, save, lookup("d"), rename("", "d"))
	fails(t, s, api.ErrDir, root, save, lookup("d"), lookup("g"), rename("d", "x"))
	answers(t, s, reply{}, root, lookup("d"), save, root, rename("h", "f"), handle)

	fails(t, s, api.ErrHeld, root, remove("d"))
	fails(t, s, api.ErrNone, root, remove("e"))
	fails(t, s, api.ErrDir, at("f", remove("f"))...)
	answers(t, s, reply{H: d}, at("d", remove("g"), handle)...)
	answers(t, s, reply{}, root, remove("d"), handle)
	well(t, s, root, remove("f"))
	if s.Tree().Nodes() != 1 {
		t.Error(s.Tree().Nodes())
	}
}

// P111: list: entries, and N: next.
func TestList(t *testing.T) {
	s := begin(t, 300)
	list := func(cookie, n int) []op { return []op{root, {Kind: "list", A: cookie, B: n}} }
	answers(t, s, reply{}, list(0, 9)...)
	for _, name := range []string{"b", "c", "a"} {
		well(t, s, root, file(name))
	}
	a, b, c := api.Entry{Name: "a", H: api.Handle{Node: 3}}, api.Entry{Name: "b", H: api.Handle{Node: 1}}, api.Entry{Name: "c", H: api.Handle{Node: 2}}
	answers(t, s, reply{L: []api.Entry{a, b, c}, N: 3}, list(0, math.MaxInt)...)
	answers(t, s, reply{L: []api.Entry{a, b}, N: 2}, list(0, 2)...)
	answers(t, s, reply{L: []api.Entry{c}, N: 3}, list(2, 2)...)
	answers(t, s, reply{N: 1}, list(1, 0)...)
	fails(t, s, api.ErrBound, list(-1, 1)...)
	fails(t, s, api.ErrBound, list(0, -1)...)
	fails(t, s, api.ErrDir, at("a", op{Kind: "list", A: -1})...)
	answers(t, s, reply{Code: 10}, root, dir("d"), save, root, remove("d"), restore, op{Kind: "list", A: -1})
}

// P111: attr: what a mask asks for, as attr.Encode has it.
func TestAttr(t *testing.T) {
	s := begin(t, 300)
	well(t, s, root, dir("d"), file("f"), write(0, "abc", state{}))
	for path, want := range map[string]api.Attr{
		"":    {Kind: api.Dir, Size: 1, Links: 3, Change: 1},
		"d":   {Kind: api.Dir, Size: 1, Links: 2, Change: 1},
		"d/f": {Kind: api.File, Size: 3, Links: 1, Change: 1},
	} {
		for mask := range 32 {
			text, err := attr.Encode(want, mask)
			if err != nil {
				t.Fatal(err)
			}
			answers(t, s, reply{Text: text}, at(path, op{Kind: "attr", A: mask})...)
		}
		for _, mask := range []int{math.MinInt, -1, 32, math.MaxInt} {
			fails(t, s, api.ErrBound, at(path, op{Kind: "attr", A: mask})...)
		}
	}
	answers(t, s, reply{Code: 10}, root, file("g"), save, root, remove("g"), restore, op{Kind: "attr", A: 32})
	answers(t, s, reply{H: api.Handle{Node: 3, Gen: 1}}, root, file("g"), save, root, remove("g"), restore, handle)
}

// P4: what is handed over is only read, up to its end, and not kept; what is answered is new memory.
func TestMemory(t *testing.T) {
	s := begin(t, 300)
	l := []op{root, file("a"), root, {Kind: "list", B: 9}, {Kind: "list", B: 9}, {Kind: "what"}}
	was := append([]op{}, l...)
	r, err := s.Compound(l[:5])
	if err != nil || len(r) != 5 || !reflect.DeepEqual(l, was) {
		t.Fatal(r, err, l)
	}
	clear(l)
	r[3].L[0].Name = "z"
	if r[4].L[0].Name != "a" {
		t.Error("two lists share memory")
	}
	_ = append(r[4].L[:0], api.Entry{Name: "y"})
	answers(t, s, reply{L: []api.Entry{{Name: "a", H: api.Handle{Node: 1}}}, N: 1}, root, op{Kind: "list", B: 9})

	join(t, s, "me")
	st := opens(t, s, "a", 1, 1, 1, api.Read)
	well(t, s, locks("lock", st, 0, 1, api.Read))
	before := look(s)
	clear(s.Opens())
	clear(s.Locks())
	if !reflect.DeepEqual(before, look(s)) {
		t.Error(before, look(s))
	}
}

// P114: the tree is the server's own.
func TestTree(t *testing.T) {
	s := begin(t, 300)
	x := s.Tree()
	well(t, s, root, file("a"), write(0, "abc", state{}))
	h, err := x.Walk([]string{"a"})
	if err != nil || s.Tree() != x {
		t.Fatal(err)
	}
	if text, end, err := x.Read(h, 1, 9); text != "bc" || !end || err != nil {
		t.Error(text, end, err)
	}
}

// P2: a server answers by its own calls alone, whatever others do side by side.
func TestServersAreApart(t *testing.T) {
	const many = 8
	views := make([]view, many)
	var wait sync.WaitGroup
	for i := range many {
		wait.Go(func() {
			s, err := serve.New(300)
			if err != nil {
				return
			}
			for _, l := range [][]op{
				{{Kind: "client", Name: "me"}, {Kind: "confirm", Client: 1, A: 1}},
				{root, file("a"), open(1, 1, 0, 3), write(0, "abc", state{ID: 1, Seq: 1}), locks("lock", state{ID: 1, Seq: 1}, 0, 5, 2)},
			} {
				s.Compound(l)
			}
			views[i] = look(s)
		})
	}
	wait.Wait()
	for _, v := range views {
		if len(v.opens) != 1 || len(v.locks) != 1 || !reflect.DeepEqual(v, views[0]) {
			t.Fatal(v, views[0])
		}
	}
}
