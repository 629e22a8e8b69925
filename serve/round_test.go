package serve_test

import (
	"math"
	"math/rand"
	"reflect"
	"strconv"
	"testing"

	"pigeonholes/api"
	"pigeonholes/serve"
)

// chance tells a number from 0 on, below n.
type chance func(n int) int

// some of a list.
func some[E any](pick chance, l ...E) E { return l[pick(len(l))] }

// odd numbers, which mostly are none of anything.
func odd(pick chance) int {
	return some(pick, math.MinInt, -far, -1, 0, 3, 4, 16, 99, api.MaxFile+1, greatest, greatest+1, far, far+1, math.MaxInt)
}

// kindsOfOps, the ones that hang on each other often.
var kindsOfOps = []string{
	"root", "save", "restore", "lookup", "lookup", "up", "make", "make", "link", "remove", "rename", "list", "attr", "handle", "client", "confirm", "confirm", "renew",
	"open", "open", "open", "open", "close", "down", "down", "lock", "lock", "lock", "unlock", "test", "read", "read", "write", "write", "resize", "what",
}

// guess an op that mostly goes with how a book stands; few: out of how few owners and names.
func guess(pick chance, b *book, few int) op {
	x := op{Kind: some(pick, kindsOfOps...)}
	x.Name, x.Text = letter(pick, few), letter(pick, few)
	x.A, x.B, x.C = pick(4), pick(9), 1+pick(3)
	x.Client = b.numbers - pick(3)
	if len(b.clients) > 0 && pick(8) > 0 {
		x.Client = some(pick, b.clients...).id
	}
	if len(b.opens) > 0 && pick(6) > 0 {
		x.State = stateOf(pick, b)
	}
	switch x.Kind {
	case "make":
		x.A = some(pick, 1, 1, 1, 2)
	case "list", "attr":
		x.A = pick(32)
	case "client":
		x.Name = letter(pick, 15)
	case "confirm":
		x.A = x.Client
	case "open", "close", "down":
		x = guessTurn(pick, b, few, x)
	case "lock", "test", "unlock":
		x.A, x.B, x.C = 10*pick(9), pick(30), 1+pick(2)
	case "read", "write", "resize":
		x = guessFile(pick, b, x)
	}
	if pick(8) == 0 {
		spoil(pick, &x)
	}
	return x
}

// letter out of a few, as a name.
func letter(pick chance, few int) string { return string(rune('a' + pick(few))) }

// stateOf some open, of those that are new mostly.
func stateOf(pick chance, b *book) state {
	o := b.opens[len(b.opens)-1-pick(min(4, len(b.opens)))]
	return state{ID: o.id, Seq: o.seq}
}

// guessFile: by nobody's open, by some, or by one of the file that is current, if its handle is what is guessed.
func guessFile(pick chance, b *book, x op) op {
	if pick(3) == 0 {
		x.State = state{}
	}
	for _, o := range b.opens {
		if x.State.ID > 0 && b.going != nil && o.file == *b.going && pick(2) == 0 {
			x.State = state{ID: o.id, Seq: o.seq}
		}
	}
	return x
}

// guessTurn: mostly the next one of an owner, and of opens its own.
func guessTurn(pick chance, b *book, few int, x op) op {
	x.B = pick(few)
	x.C = some(pick, 1, 1, 1, 2, 2, 3, 1+8, 2+4, 1+4, 3+12)
	if x.Kind != "open" {
		for _, o := range b.opens {
			if o.id == x.State.ID {
				x.Client, x.B = o.client, o.owner
			}
		}
	}
	x.A = some(pick, 0, 5, greatest)
	if i := b.turn(x); i >= 0 {
		x.A = (b.turns[i].seq + some(pick, 1, 1, 1, 1, 1, 0, 2)) % (greatest + 1)
	}
	return x
}

// spoil one part of an op.
func spoil(pick chance, x *op) {
	switch pick(9) {
	case 0:
		x.A = odd(pick)
	case 1:
		x.B = odd(pick)
	case 2:
		x.C = odd(pick)
	case 3:
		x.Client = odd(pick)
	case 4:
		x.State.Seq += 1 - 2*pick(2)
	case 5:
		x.State.ID = odd(pick)
	case 6:
		x.Name = some(pick, "", "..", "a b")
	case 7:
		x.Text = some(pick, "", "..", "a b")
	case 8:
		x.State = state{ID: 1 + pick(9), Seq: 1}
	}
}

// guessCompound: mostly from the root on, or from what is below it; at times with a handle that is gone.
func guessCompound(pick chance, b *book, few int) []op {
	var l []op
	b.going = nil
	if pick(10) > 0 {
		l = append(l, root)
	}
	if pick(3) == 0 {
		l = append(l, save)
	}
	if all, _, _ := b.tree.List(b.tree.Root(), 0, api.MaxEntries); len(all) > 0 && pick(4) > 0 {
		e := some(pick, all...)
		l = append(l, lookup(e.Name))
		b.going = &e.H
	}
	switch pick(20) {
	case 0:
		name := letter(pick, few)
		l = []op{root, {Kind: "make", Name: name, A: 1 + pick(2)}, save, root, remove(name), restore}
	case 1:
		l = append(l, save, root)
	}
	for range 1 + pick(4) {
		l = append(l, guess(pick, b, few))
	}
	return l
}

// step does a compound, or ticks, to both; it tells what was done, each with its code.
func step(t *testing.T, s *serve.Server, b *book, pick chance, few int) []string {
	t.Helper()
	var met []string
	if pick(16) == 0 {
		n := some(pick, 0, 1, 1, 2, 2, 5, 5, 5, 10, 30, 59, -1)
		err := s.Tick(n)
		if want := b.tick(n); err != want {
			t.Fatalf("%d ticks: %v; want %v", n, err, want)
		}
		met = append(met, "tick "+strconv.Itoa(code(err)))
	} else {
		l := guessCompound(pick, b, few)
		got, err := s.Compound(l)
		want := b.compound(l)
		if err != nil || len(got) != len(want) {
			t.Fatalf("%+v: %+v, %v; want %+v", l, got, err, want)
		}
		for i := range got {
			if !same(got[i], want[i]) {
				t.Fatalf("%+v: %+v; want %+v", l[i], got[i], want[i])
			}
			met = append(met, l[i].Kind+" "+strconv.Itoa(got[i].Code))
		}
	}
	if x, y := look(s), b.look(); !reflect.DeepEqual(x, y) {
		t.Fatalf("%v: %+v; want %+v", met, x, y)
	}
	return met
}

// P110 to P115: after any compounds and ticks a server is as the book has it, and so is each reply.
func TestAsItsBook(t *testing.T) {
	met := map[string]int{}
	for seed := range int64(400) {
		r := rand.New(rand.NewSource(seed))
		few, most := 1+r.Intn(20), 2+r.Intn(60)
		s, b := begin(t, most), newBook(most)
		for range 300 {
			for _, name := range step(t, s, b, r.Intn, few) {
				met[name]++
			}
		}
	}
	for kind, codes := range map[string][]int{
		"root": {0}, "save": {0, 3}, "restore": {0, 3}, "lookup": {0, 3, 4, 5, 7, 10}, "up": {0, 3, 7, 10}, "make": {0, 3, 4, 6, 7, 9, 10},
		"link": {0, 3, 4, 6, 7, 8, 10}, "remove": {0, 3, 4, 5, 7, 11, 10}, "rename": {0, 3, 4, 5, 7, 8, 10}, "list": {0, 2, 3, 7, 10}, "attr": {0, 2, 3, 10}, "handle": {0, 3},
		"client": {0, 4}, "confirm": {0, 3, 5}, "renew": {0, 5}, "open": {0, 2, 3, 5, 8, 9, 10, 11, 12}, "close": {0, 2, 3, 5, 12, 13}, "down": {0, 2, 3, 5, 12, 13},
		"lock": {0, 2, 3, 5, 11, 13}, "unlock": {0, 2, 3, 5, 13}, "test": {0, 2, 3, 5, 11, 13}, "read": {0, 2, 3, 5, 8, 10, 11}, "write": {0, 2, 3, 5, 8, 10, 11}, "resize": {0, 2, 3, 5, 8, 10, 11},
		"what": {1}, "tick": {0, 2},
	} {
		for _, end := range codes {
			if name := kind + " " + strconv.Itoa(end); met[name] < 3 {
				t.Errorf("%s was met %d times", name, met[name])
			}
		}
	}
}

// P115: what is told again changes nothing: each request that an owner made last is answered as it was, as often as it comes, and all stays as it is.
func TestToldAgain(t *testing.T) {
	told := 0
	for seed := range int64(100) {
		r := rand.New(rand.NewSource(seed))
		s, b := begin(t, 40), newBook(40)
		for range 150 {
			step(t, s, b, r.Intn, 4)
			before := look(s)
			for _, d := range b.turns {
				for _, kind := range []string{"open", "close", "down"} {
					x := op{Kind: kind, Client: d.client, B: d.owner, A: d.seq, C: r.Intn(16)}
					if len(b.opens) > 0 {
						o := some(r.Intn, b.opens...)
						x.State = state{ID: o.id, Seq: o.seq}
					}
					answers(t, s, d.reply, root, x)
					b.compound([]op{root, x})
					told++
				}
			}
			if after := look(s); !reflect.DeepEqual(before, after) {
				t.Fatalf("%+v becomes %+v", before, after)
			}
		}
	}
	if told < 1000 {
		t.Error(told)
	}
}

// P115: a compound does what its ops do, one behind the other: in compounds of their own, each behind the same walk, they do the same. (Ops that go elsewhere, or change where the walk goes, are left out.)
func TestCompoundIsItsOps(t *testing.T) {
	well3 := 0
	for seed := range int64(200) {
		r := rand.New(rand.NewSource(seed))
		s, x, b := office(t, 3), office(t, 3), officeBook()
		for range 100 {
			l := at(some(r.Intn, "", "a", "a", "b", "b", "d", "d/c"))
			walk := len(l)
			for len(l) < walk+1+r.Intn(6) {
				y := guess(r.Intn, b, 3)
				switch y.Kind {
				case "root", "save", "restore", "up", "lookup", "make", "link", "remove", "rename":
					continue
				}
				l = append(l, y)
			}
			want := do(t, s, l...)
			b.compound(l)
			for i := walk; i < len(want); i++ {
				answers(t, x, want[i], append(l[:walk:walk], l[i])...)
			}
			if i, j := look(s), look(x); !reflect.DeepEqual(i, j) {
				t.Fatalf("%+v: %+v; want %+v", l, j, i)
			}
			if len(want) > walk+3 {
				well3++
			}
			if r.Intn(5) == 0 {
				n := r.Intn(30)
				tick(t, s, n)
				tick(t, x, n)
				b.tick(n)
			}
		}
	}
	if well3 < 300 {
		t.Error("three ops went well only", well3, "times")
	}
}

// officeBook is the book of an office with three clients.
func officeBook() *book {
	b := newBook(300)
	for _, l := range [][]op{
		{root, file("a"), root, file("b"), root, dir("d"), file("c")},
		{{Kind: "client", Name: "c1"}, {Kind: "confirm", Client: 1, A: 1}, {Kind: "client", Name: "c2"}, {Kind: "confirm", Client: 2, A: 2}, {Kind: "client", Name: "c3"}, {Kind: "confirm", Client: 3, A: 3}},
	} {
		b.compound(l)
	}
	return b
}

// FuzzServe takes a byte for each guess; where there are none left, it is over.
func FuzzServe(f *testing.F) {
	for seed := range int64(5) {
		r := rand.New(rand.NewSource(seed))
		l := make([]byte, 400)
		r.Read(l)
		f.Add(string(l))
	}
	f.Fuzz(func(t *testing.T, text string) {
		i := 0
		pick := func(n int) int {
			if i >= len(text) {
				return 0
			}
			i++
			return int(text[i-1]) % n
		}
		few, most := 1+pick(20), 2+pick(60)
		s, b := begin(t, most), newBook(most)
		for i < len(text) && i < 2000 {
			step(t, s, b, pick, few)
		}
	})
}
