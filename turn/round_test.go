package turn_test

import (
	"math/rand"
	"slices"
	"testing"

	"pigeonholes/api"
	"pigeonholes/turn"
)

// line is a request that was answered, of an owner that was not dropped behind it.
type line struct {
	owner int
	seq   uint32 // which wraps round by itself
	reply string
}

// book is a table as P100 to P102 have it: all that was answered, one behind the other.
type book []line

// last line of an owner, or none.
func (b book) last(owner int) *line {
	for i := range b {
		if l := &b[len(b)-1-i]; l.owner == owner {
			return l
		}
	}
	return nil
}

// owners that are known, each once.
func (b book) owners() []int {
	var l []int
	for _, x := range b {
		if !slices.Contains(l, x.owner) {
			l = append(l, x.owner)
		}
	}
	return l
}

func (b book) begin(owner, seq int) (string, bool, error) {
	if int(uint32(seq)) != seq {
		return "", false, api.ErrBound
	}
	l := b.last(owner)
	if l == nil {
		if len(b.owners()) == api.MaxOwners {
			return "", false, api.ErrFull
		}
		return "", false, nil
	}
	switch uint32(seq) - l.seq {
	case 0:
		return l.reply, true, nil
	case 1:
		return "", false, nil
	}
	return "", false, api.ErrSeq
}

func (b *book) end(owner, seq int, reply string) error {
	_, again, err := b.begin(owner, seq)
	if again {
		return api.ErrSeq
	}
	if err == nil {
		*b = append(*b, line{owner, uint32(seq), reply})
	}
	return err
}

func (b *book) drop(owner int) error {
	if b.last(owner) == nil {
		return api.ErrNone
	}
	*b = slices.DeleteFunc(*b, func(l line) bool { return l.owner == owner })
	return nil
}

// compare all that both tell: of everyone who is known the last one, and of how many there are.
func compare(t *testing.T, x *turn.Table, b book) {
	t.Helper()
	l := b.owners()
	count(t, x, len(l))
	for _, owner := range l {
		last := b.last(owner)
		if reply, again, err := x.Begin(owner, int(last.seq)); reply != last.reply || !again || err != nil {
			t.Fatalf("%d of %d: %q, %t, %v; want %q", last.seq, owner, reply, again, err, last.reply)
		}
	}
}

// call is one of a table's methods, and what it is given.
type call struct {
	what, owner, seq int
	reply            string
}

// step does one call to both, and tells its error, and whether it was one of before.
func step(t *testing.T, x *turn.Table, b *book, c call) (bool, error) {
	t.Helper()
	var got, want string
	var again, wantAgain bool
	var err, wantErr error
	switch c.what % 8 {
	case 0, 1, 2:
		got, again, err = x.Begin(c.owner, c.seq)
		want, wantAgain, wantErr = b.begin(c.owner, c.seq)
	case 3, 4, 5, 6:
		err, wantErr = x.End(c.owner, c.seq, c.reply), b.end(c.owner, c.seq, c.reply)
	case 7:
		err, wantErr = x.Drop(c.owner), b.drop(c.owner)
	}
	if got != want || again != wantAgain || err != wantErr {
		t.Fatalf("%+v: %q, %t, %v; want %q, %t, %v", c, got, again, err, want, wantAgain, wantErr)
	}
	compare(t, x, *b)
	return again, err
}

// near a number: that one, one behind, or a little off; also what is no number.
func near(r *rand.Rand, seq uint32) int {
	switch r.Intn(10) {
	case 0, 1:
		return int(seq)
	case 2:
		return int(seq) + r.Intn(5) - 2
	case 3:
		return int(seq + uint32(r.Intn(5)-2))
	}
	return int(seq + 1)
}

// P100 to P102: after any calls a table is as the book has it; many owners fill it, few meet often, and their numbers go around the greatest.
func TestAsItsBook(t *testing.T) {
	met := map[error]int{}
	repeated, around := 0, 0
	for seed := range int64(300) {
		r := rand.New(rand.NewSource(seed))
		most := 1 + r.Intn(40)
		x, b := &turn.Table{}, book{}
		for i := range 300 {
			c := call{what: r.Intn(8), owner: r.Intn(most) - most/2, seq: greatest - r.Intn(4), reply: nth(i)}
			if l := b.last(c.owner); l != nil {
				c.seq = near(r, l.seq)
			}
			if c.what == 7 && r.Intn(3) > 0 {
				c.owner += most // mostly nobody, so that the others grow
			}
			again, err := step(t, x, &b, c)
			met[err]++
			if again {
				repeated++
			}
			if l := b.last(c.owner); err == nil && l != nil && l.reply == c.reply && l.seq == 0 {
				around++
			}
		}
	}
	for _, err := range []error{nil, api.ErrBound, api.ErrFull, api.ErrSeq, api.ErrNone} {
		if met[err] < 100 {
			t.Errorf("%v was met %d times", err, met[err])
		}
	}
	if repeated < 100 || around < 100 {
		t.Errorf("repeated %d times, around %d times", repeated, around)
	}
}

// P102: requests that come doubled, late or early are done once each, in their order, and what one was answered is told the same whenever it is told.
func TestEachOnce(t *testing.T) {
	for seed := range int64(100) {
		r := rand.New(rand.NewSource(seed))
		x := &turn.Table{}
		first := greatest - r.Intn(50)
		done := []string{nth(r.Intn(1000))}
		ends(t, x, 1, first, done[0])
		for len(done) < 100 {
			n := max(0, len(done)+r.Intn(4)-2)
			seq := (first + n) % (greatest + 1)
			switch n - len(done) {
			case -1:
				repeats(t, x, 1, seq, done[n])
			case 0:
				begins(t, x, 1, seq)
				done = append(done, nth(r.Intn(1000)))
				ends(t, x, 1, seq, done[n])
			default:
				refused(t, x, 1, seq, api.ErrSeq)
			}
		}
	}
}

// FuzzTurn takes three bytes for each call: what it is, whose, and how far its number is from the owner's last one.
func FuzzTurn(f *testing.F) {
	for _, s := range []string{"", "\x03\x01\xff\x00\x01\x00\x03\x01\x01\x00\x01\x00\x00\x01\x01", "\x03\x01\x07\x03\x02\x07\x07\x01\x00\x00\x01\x05\x03\x01\x00\x07\x03\x00", "\x03\x01\x07\x03\x01\x00\x03\x01\x02\x03\x01\x80\x0b\x01\x01"} {
		f.Add(s)
	}
	f.Fuzz(func(t *testing.T, s string) {
		x, b := &turn.Table{}, book{}
		for i := 0; len(s) >= 3 && i < 200; i++ {
			c := call{what: int(s[0]), owner: int(s[1] % 40), seq: int(int8(s[2])), reply: nth(i)}
			if l := b.last(c.owner); l != nil {
				c.seq += int(l.seq)
			}
			if s[0] >= 128 { // around the greatest
				c.seq = int(uint32(c.seq))
			}
			step(t, x, &b, c)
			s = s[3:]
		}
	})
}
