package store_test

import (
	"math/rand"
	"reflect"
	"slices"
	"strconv"
	"testing"

	"pigeonholes/api"
	"pigeonholes/disk"
	"pigeonholes/serve"
	"pigeonholes/store"
)

// most nodes of these stores.
const most = 12

// lasted is what Open tells: a tree, and names by which clients may open again.
type lasted struct {
	tree  string
	names []string
}

// book of a store: a server without a disk, what its disk has, and how many ticks of grace are left. With one that fell, maybe is what its disk may have, too.
type book struct {
	x     *serve.Server
	left  int
	known []string
	has   lasted
	maybe *lasted
	fell  error
}

func beginBook(t *testing.T) *book {
	t.Helper()
	x, err := serve.New(most)
	checkErr(t, err, nil)
	b := &book{x: x}
	b.has = b.now()
	return b
}

// now: what is to last.
func (b *book) now() lasted {
	l := slices.Concat(b.x.Clients(), b.known)
	slices.Sort(l)
	return lasted{tree: b.x.Tree().Snapshot(), names: slices.Compact(l)}
}

// guard, as P182 has it.
func (b *book) guard(x op, client string) error {
	if b.left == 0 || x.Kind == "open" && x.Text == "again" && client != "" && slices.Contains(b.known, client) {
		return nil
	}
	return api.ErrGrace
}

// open anew, from one of what may be.
func (b *book) open(t *testing.T, from lasted) {
	t.Helper()
	*b = book{left: api.Lease, known: from.names, has: from}
	x, err := serve.Load(from.tree, most, b.guard)
	checkErr(t, err, nil)
	b.x = x
}

// compound of a store, and of its book.
func (b *book) compound(t *testing.T, s *store.Store, l []op) error {
	t.Helper()
	got, err := s.Compound(l)
	if b.fell != nil {
		checkErr(t, err, b.fell)
		return err
	}
	want, wantErr := b.x.Compound(l)
	if wantErr != nil {
		checkErr(t, err, wantErr)
		return err
	}
	now := b.now()
	switch err {
	case nil:
		if !reflect.DeepEqual(got, want) {
			t.Fatalf("%+v: %+v; want %+v", l, got, want)
		}
		b.has = now
	case api.ErrPower:
		b.fell, b.maybe = err, &now
	default:
		checkErr(t, err, api.ErrFull)
		b.fell = err
	}
	if err != nil && (len(got) != 0 || reflect.DeepEqual(b.has, now)) {
		t.Fatalf("%+v: %+v, %v", l, got, err)
	}
	return err
}

// tick of both.
func (b *book) tick(t *testing.T, s *store.Store, n int) {
	t.Helper()
	err := s.Tick(n)
	if b.fell != nil {
		checkErr(t, err, b.fell)
		return
	}
	checkErr(t, err, b.x.Tick(n))
	if err == nil {
		b.left = max(0, b.left-n)
	}
	if b.left == 0 {
		b.known = nil
	}
}

// crash of a disk, and the store on it that is opened: it has what was answered, or what was not, all of it.
func (b *book) crash(t *testing.T, d *disk.Disk, keep []bool) *store.Store {
	t.Helper()
	d.Crash(keep)
	s := open(t, d, most)
	got := lasted{tree: snapshot(s)}
	for _, name := range everybody {
		if mayAgain(t, d, name) {
			got.names = append(got.names, name)
		}
	}
	if !alike(got, b.has) && (b.maybe == nil || !alike(got, *b.maybe)) {
		t.Fatalf("%+v; want %+v, or %+v", got, b.has, b.maybe)
	}
	b.open(t, got)
	return s
}

func alike(a, b lasted) bool { return a.tree == b.tree && slices.Equal(a.names, b.names) }

// everybody who may be a client, rising.
var everybody = []string{"ann", "bob", "cy", "dee", "eve"}

// mayAgain: may a client by this name have again what it had open? As isKnown, but the root may be full: so it opens the root itself, which is none that can be opened.
func mayAgain(t *testing.T, d *disk.Disk, name string) bool {
	t.Helper()
	s := open(t, d.Copy(), most)
	x := s.Server() // on which no disk is written
	r, err := x.Compound([]op{{Kind: "client", Name: name}, {Kind: "confirm", Client: 1, A: 1}, root, again(1, 1, 0, 1)})
	checkErr(t, err, nil)
	if len(r) != 4 || r[3].Code != code(api.ErrFile) && r[3].Code != code(api.ErrGrace) {
		t.Fatalf("%+v", r)
	}
	return r[3].Code == code(api.ErrFile)
}

// chance tells a number from 0 on, below n.
type chance func(n int) int

func some[E any](pick chance, l ...E) E { return l[pick(len(l))] }

// guess an op that goes with a server, mostly.
func guess(pick chance, s *serve.Server) op {
	x := op{Kind: some(pick, "make", "make", "link", "remove", "rename", "list", "attr", "handle", "save", "up", "client", "client", "confirm", "confirm", "confirm", "renew", "open", "open", "open", "close", "down", "lock", "lock", "unlock", "test", "read", "write", "write", "write", "resize", "what")}
	x.Name, x.Text = some(pick, "a", "b", "c", "d"), some(pick, "a", "b", "c", "again", "")
	x.A, x.B, x.C, x.Client = 1+pick(3), pick(3), 1+pick(3), 1+pick(8)
	if l := s.Opens(); len(l) > 0 && pick(3) > 0 {
		x.State = state{ID: some(pick, l...).Owner, Seq: 1 + pick(2)}
	}
	switch x.Kind {
	case "make":
		x.A = some(pick, api.File, api.File, api.Dir)
	case "client":
		x.Name = some(pick, everybody...)
	case "confirm":
		x.A = x.Client
	case "write":
		x.A, x.Text = pick(300), noise(uint32(pick(99)), pick(150))
	case "resize", "read":
		x.A, x.B = pick(400), pick(400)
	}
	return x
}

// guessCompound from the root on, mostly into what is there.
func guessCompound(pick chance, s *serve.Server) []op {
	l := []op{root}
	if all, _, _ := s.Tree().List(api.Handle{}, 0, 9); len(all) > 0 && pick(4) > 0 {
		l = append(l, op{Kind: "save"}, lookup(some(pick, all...).Name))
	}
	for range pick(4) {
		l = append(l, guess(pick, s))
	}
	if pick(40) == 0 {
		l = make([]op, api.MaxOps+1)
	}
	return l
}

// goes through so many steps, on a disk whose power goes at times; it counts what came about.
func goes(t *testing.T, pick chance, sectors, steps int, met map[string]int) {
	t.Helper()
	d, s := begin(t, sectors, most)
	b := beginBook(t)
	for range steps {
		if pick(12) == 0 {
			checkErr(t, d.Fail(pick(20)), nil)
		}
		if pick(8) == 0 {
			b.tick(t, s, some(pick, 0, 1, 5, 20, 30, 59, 60, -1))
		} else {
			err := b.compound(t, s, guessCompound(pick, b.x))
			met["compound "+strconv.Itoa(code(err))]++
		}
		if b.left > 0 {
			met["grace"]++
		}
		if b.fell != nil && pick(3) > 0 || pick(30) == 0 {
			keep := make([]bool, d.Waiting())
			for i := range keep {
				keep[i] = pick(4) > 0
			}
			maybe := b.maybe
			s = b.crash(t, d, keep)
			if maybe != nil && alike(*maybe, b.has) {
				met["more than was answered"]++
			}
			if len(b.known) > 0 {
				met["known"]++
			}
		}
		if !reflect.DeepEqual(s.Server().Opens(), b.x.Opens()) || !reflect.DeepEqual(s.Server().Locks(), b.x.Locks()) || !slices.Equal(s.Server().Clients(), b.x.Clients()) || snapshot(s) != b.x.Tree().Snapshot() {
			t.Fatalf("%v, %v; want %v, %v", s.Server().Opens(), s.Server().Locks(), b.x.Opens(), b.x.Locks())
		}
	}
}

// P180 to P183: after any compounds, ticks and losses of power a store is as its book has it.
func TestAsItsBook(t *testing.T) {
	met := map[string]int{}
	for seed := range int64(300) {
		r := rand.New(rand.NewSource(seed))
		goes(t, r.Intn, some(r.Intn, 10, 16, 24, 1000), 150, met)
	}
	for what, n := range map[string]int{"compound 0": 10000, "compound 2": 100, "compound 9": 100, "compound 15": 500, "grace": 1000, "more than was answered": 50, "known": 300} {
		if met[what] < n {
			t.Errorf("%s was met %d times", what, met[what])
		}
	}
}

// FuzzStore takes a byte for each guess; where there are none left, it is over.
func FuzzStore(f *testing.F) {
	for seed := range int64(5) {
		r := rand.New(rand.NewSource(seed))
		l := make([]byte, 400)
		r.Read(l)
		f.Add(string(l))
	}
	f.Fuzz(func(t *testing.T, text string) {
		i := 0
		pick := func(n int) int {
			if i >= len(text) {
				return 0
			}
			i++
			return int(text[i-1]) % n
		}
		goes(t, pick, some(pick, 10, 16, 60), len(text)/12, map[string]int{})
	})
}
