package cache_test

import (
	"math/rand"
	"strconv"
	"testing"

	"pigeonholes/api"
	"pigeonholes/cache"
)

// line is a request that was kept.
type line struct {
	client      string
	id          int
	text, reply string
}

// book is a cache as P130 and P131 have it: all that was ever kept, one behind the other, of which the last ones count.
type book struct {
	most  int
	lines []line
}

// last ones that count.
func (b *book) last() []line {
	return b.lines[max(0, len(b.lines)-b.most):]
}

// find a request among those that count, or none.
func (b *book) find(client string, id int) *line {
	l := b.last()
	for i := range l {
		if l[i].client == client && l[i].id == id {
			return &l[i]
		}
	}
	return nil
}

func (b *book) look(client string, id int, text string) (string, bool, error) {
	l := b.find(client, id)
	switch {
	case l == nil:
		return "", false, nil
	case l.text != text:
		return "", false, api.ErrSeq
	}
	return l.reply, true, nil
}

func (b *book) keep(l line) error {
	if b.find(l.client, l.id) != nil {
		return api.ErrExist
	}
	b.lines = append(b.lines, l)
	return nil
}

// compare all that both tell: each that was ever kept is known if it counts, and not if it does not.
func compare(t *testing.T, c *cache.Cache, b *book) {
	t.Helper()
	count(t, c, len(b.last()))
	for _, l := range b.lines[max(0, len(b.lines)-3*b.most):] {
		want, is, wantErr := b.look(l.client, l.id, l.text)
		if reply, known, err := c.Look(l.client, l.id, l.text); reply != want || known != is || err != wantErr {
			t.Fatalf("%+v: %q, %t, %v; want %q, %t, %v", l, reply, known, err, want, is, wantErr)
		}
	}
}

// step does one call to both, to look or to keep, and tells its error, and whether it was known.
func step(t *testing.T, c *cache.Cache, b *book, look bool, l line) (bool, error) {
	t.Helper()
	var got, want string
	var is, wantIs bool
	var err, wantErr error
	if look {
		got, is, err = c.Look(l.client, l.id, l.text)
		want, wantIs, wantErr = b.look(l.client, l.id, l.text)
	} else {
		err, wantErr = c.Keep(l.client, l.id, l.text, l.reply), b.keep(l)
	}
	if got != want || is != wantIs || err != wantErr {
		t.Fatalf("%t, %+v: %q, %t, %v; want %q, %t, %v", look, l, got, is, err, want, wantIs, wantErr)
	}
	compare(t, c, b)
	return is, err
}

// P130, P131: after any calls a cache is as the book has it; few requests meet often, many go by.
func TestAsItsBook(t *testing.T) {
	met := map[error]int{}
	told, gone, anew := 0, 0, 0
	for seed := range int64(300) {
		r := rand.New(rand.NewSource(seed))
		b := &book{most: 1 + r.Intn(api.MaxReplies)}
		c := begin(t, b.most)
		clients, ids := 1+r.Intn(5), 1+r.Intn(15)
		ever := map[line]int{}
		for i := range 300 {
			l := line{client: string(rune('a' + r.Intn(clients))), id: r.Intn(ids) - ids/2, text: strconv.Itoa(r.Intn(2)), reply: replyOf(i)}
			look := r.Intn(3) == 0
			is, err := step(t, c, b, look, l)
			met[err]++
			if is {
				told++
			}
			who := line{client: l.client, id: l.id}
			if look && !is && err == nil && ever[who] > 0 {
				gone++
			}
			if !look && err == nil {
				if ever[who] > 0 {
					anew++
				}
				ever[who]++
			}
		}
	}
	for _, err := range []error{nil, api.ErrSeq, api.ErrExist} {
		if met[err] < 1000 {
			t.Errorf("%v was met %d times", err, met[err])
		}
	}
	if told < 1000 || gone < 1000 || anew < 1000 {
		t.Errorf("told %d times, gone %d times, kept anew %d times", told, gone, anew)
	}
}

// P131: requests that come doubled, and not later than most others, are done once each, and answered the same each time.
func TestEachOnce(t *testing.T) {
	for seed := range int64(100) {
		r := rand.New(rand.NewSource(seed))
		most := 1 + r.Intn(api.MaxReplies)
		c := begin(t, most)
		var done []string
		for range 500 {
			id := len(done) - r.Intn(min(most, len(done))+1)
			reply, is, err := c.Look("a", id, textOf(id))
			checkErr(t, err, nil)
			if is != (id < len(done)) {
				t.Fatalf("%d of %d: %t", id, len(done), is)
			}
			if is {
				if reply != done[id] {
					t.Fatalf("%d: %q; want %q", id, reply, done[id])
				}
				continue
			}
			done = append(done, replyOf(r.Intn(1000)))
			checkErr(t, c.Keep("a", id, textOf(id), done[id]), nil)
		}
	}
}

// FuzzCache takes a byte for how many are kept, and then two for each call: whose request it is, which one, by which text, and whether it is looked for.
func FuzzCache(f *testing.F) {
	for _, s := range []string{"", "\x01", "\x01\x00\x01\x00\x02\x80\x01\x00\x03\x80\x01\x00\x01", "\x00\x00\x01\x40\x01\xc0\x01\x80\x01\x00\x02\x80\x01", "\x13\x00\x01\x01\x01\x02\x01\x41\x01\xc1\x01"} {
		f.Add(s)
	}
	f.Fuzz(func(t *testing.T, s string) {
		if s == "" {
			return
		}
		b := &book{most: 1 + int(s[0])%api.MaxReplies}
		c := begin(t, b.most)
		s = s[1:]
		for i := 0; len(s) >= 2 && i < 200; i++ {
			l := line{client: strconv.Itoa(int(s[0] & 7)), id: int(int8(s[1])), text: strconv.Itoa(int(s[0] & 64)), reply: replyOf(i)}
			step(t, c, b, s[0] >= 128, l)
			s = s[2:]
		}
	})
}
