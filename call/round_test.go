package call_test

import (
	"math/rand"
	"slices"
	"testing"

	"pigeonholes/api"
	"pigeonholes/call"
	"pigeonholes/net"
)

// deed is a request that was done, and what it was answered.
type deed struct {
	from  string
	id    int
	text  string
	reply string
}

// party is a caller as P151 has it, beside the caller.
type party struct {
	*call.Caller
	name    string
	last    int
	text    string
	waiting bool
}

// world has callers, a listener and the net between them, and beside them a book of all that was done, as P152 and P153 have it.
type world struct {
	n       *net.Net
	l       *call.Listener
	most    int
	callers []*party
	texts   []string
	done    []deed
	counted int // how often the counter was asked
	heard   int // replies that were waited for
	kept    int // requests that came once more
	failed  int // replies that had no room
	anew    int // requests that were done again, as they were not known any more
}

// begin a world whose listener keeps so many.
func begin(t *testing.T, most int) *world {
	t.Helper()
	w := &world{n: &net.Net{}, l: listener(t, server(t, 2), most), most: most}
	for _, name := range []string{"a", "b", "c"} {
		w.callers = append(w.callers, &party{Caller: caller(t, name), name: name})
	}
	w.texts = []string{ops(t, op{Kind: "client", Name: "x"}), ops(t, op{Kind: "client", Name: "y"}), ops(t, op{Kind: "client", Name: "x", A: 1}), "what is that"}
	return w
}

// find what was done, among the last ones.
func (w *world) find(from string, id, last int) *deed {
	l := w.done[max(0, len(w.done)-last):]
	i := slices.IndexFunc(l, func(d deed) bool { return d.from == from && d.id == id })
	if i < 0 {
		return nil
	}
	return &l[i]
}

// do a request in the book: the counter goes on by one, unless it cannot be read.
func (w *world) do(t *testing.T, from string, r request) string {
	t.Helper()
	s := replies(t, reply{Code: code(api.ErrText)})
	if r.Text != w.texts[3] {
		w.counted++
		s = replies(t, reply{N: w.counted, State: api.State{ID: w.counted}})
	}
	if w.find(from, r.ID, len(w.done)) != nil {
		w.anew++
	}
	w.done = append(w.done, deed{from, r.ID, r.Text, s})
	return s
}

// serve a message by the listener: it is done if it is a request that is not known, and then its reply is what it is by the book.
func (w *world) serve(t *testing.T, m message) {
	t.Helper()
	way := w.n.List()
	did, err := w.l.Hear(w.n, m)
	r, bad := call.Decode(m.Text)
	if bad != nil || m.To != "server" {
		w.sent(t, way, did, err, nil)
		return
	}
	d := w.find(m.From, r.ID, w.most)
	if d != nil && d.text != r.Text {
		w.sent(t, way, did, err, nil)
		return
	}
	var want message
	if d == nil {
		want = told(m.From, r.ID, w.do(t, m.From, r))
	} else {
		want = told(m.From, r.ID, d.reply)
		w.kept++
	}
	if len(way) == api.MaxMessages {
		w.failed++
		checkErr(t, err, api.ErrFull)
		if did {
			t.Fatal("did, with an error")
		}
		has(t, w.n, way...)
		return
	}
	if did != (d == nil) {
		t.Fatalf("%q: did: %t", m, did)
	}
	w.sent(t, way, false, err, &want)
}

// sent: this one, behind the others, or none.
func (w *world) sent(t *testing.T, way []message, did bool, err error, m *message) {
	t.Helper()
	checkErr(t, err, nil)
	if did {
		t.Fatal("nothing was to be done")
	}
	if m != nil {
		way = append(way, *m)
	}
	has(t, w.n, way...)
}

// bring a message to all: who is not meant passes it over.
func (w *world) bring(t *testing.T, m message) {
	t.Helper()
	w.serve(t, m)
	r, err := call.Decode(m.Text)
	for _, c := range w.callers {
		want := c.waiting && err == nil && m.From == "server" && m.To == c.name && r.ID == c.last
		text, is := c.Hear(m)
		if is != want || !is && text != "" || is && text != r.Text {
			t.Fatalf("%q: %q, %t; want %t", m, text, is, want)
		}
		if is {
			c.waiting = false
			w.heard++
			w.own(t, c, text)
		}
	}
}

// own: a reply is one that the caller's last request has, by its own text.
func (w *world) own(t *testing.T, c *party, text string) {
	t.Helper()
	for _, d := range w.done {
		if d.from == c.name && d.id == c.last && d.text == c.text && d.reply == text {
			return
		}
	}
	t.Fatalf("%s hears %q, which is no reply to %d, %q", c.name, text, c.last, c.text)
}

// ask by a caller, anew or again.
func (w *world) ask(t *testing.T, c *party, text string, again bool) {
	t.Helper()
	way := w.n.List()
	id, err := 0, error(nil)
	want, wantErr := 0, error(nil)
	if again {
		err = c.Again(w.n)
	} else {
		id, err = c.Call(w.n, text)
	}
	switch {
	case again && !c.waiting:
		wantErr = api.ErrNone
	case !again && c.waiting:
		wantErr = api.ErrHeld
	case len(way) == api.MaxMessages:
		wantErr = api.ErrFull
	case !again:
		c.last, c.text, c.waiting = c.last+1, text, true
		want = c.last
	}
	checkErr(t, err, wantErr)
	if id != want {
		t.Fatalf("%d; want %d", id, want)
	}
	if err == nil {
		way = append(way, asked(c.name, c.last, c.text))
	}
	has(t, w.n, way...)
}

// used ID of a caller, so far back: the last one only if it is known, as nobody else may have it done ahead of the caller.
func (w *world) used(c *party, back int) int {
	if back == 0 && w.find(c.name, c.last, w.most) == nil {
		back = 1
	}
	return max(0, c.last-back)
}

// step does one thing: what, and by whom, or to which message.
func (w *world) step(t *testing.T, what, which int) {
	t.Helper()
	c := w.callers[which%len(w.callers)]
	text := w.texts[which/len(w.callers)%len(w.texts)]
	way := w.n.List()
	at := which % max(1, len(way))
	switch what % 10 {
	case 0, 1:
		w.ask(t, c, text, false)
	case 2:
		w.ask(t, c, "", true)
	case 3, 4, 5:
		if m, err := w.n.Take(at); err == nil {
			w.bring(t, m)
		}
	case 6:
		if len(way) > 0 { // it stays on its way, so that also a full net is met
			w.bring(t, way[at])
		}
	case 7:
		_ = w.n.Drop(at)
	case 8:
		_ = w.n.Twice(at)
	case 9: // somebody else's: another text by an ID that was used, or a reply that nobody waits for
		if which%2 == 0 {
			w.bring(t, asked(c.name, w.used(c, which%5), text))
		} else {
			w.bring(t, told(c.name, c.last+1+which%5, text))
		}
	}
}

// P151 to P153: whatever the net does, each is done once as long as it is known, what is known is answered as it was, and what is heard is its own.
func TestAsItsBook(t *testing.T) {
	var done, heard, kept, failed, anew int
	for seed := range int64(200) {
		r := rand.New(rand.NewSource(seed))
		w := begin(t, 1+r.Intn(api.MaxReplies))
		things := []int{10, 6, 9}[seed%3] // all; what only makes messages more, so that the net fills; nothing that nobody sent
		for range 500 {
			what := r.Intn(things)
			if seed%3 == 1 {
				what = []int{0, 2, 3, 6, 8, 8}[what]
			}
			w.step(t, what, r.Intn(1000))
		}
		done, heard, kept, failed, anew = done+len(w.done), heard+w.heard, kept+w.kept, failed+w.failed, anew+w.anew
	}
	for what, often := range map[string]int{"done": done, "heard": heard, "kept": kept, "failed": failed, "anew": anew} {
		if often < 1000 {
			t.Errorf("%s: %d times", what, often)
		}
	}
}

// P153: where there are no more requests than are kept, each is done once at most, however often it comes; and each that goes on being asked is heard in the end.
func TestEachOnce(t *testing.T) {
	for seed := range int64(100) {
		r := rand.New(rand.NewSource(seed))
		w := begin(t, api.MaxReplies)
		called := 0
		for w.heard < api.MaxReplies {
			what := 2 + r.Intn(7)
			if what == 2 && called < api.MaxReplies {
				what = 0
			}
			before := w.callers[0].last + w.callers[1].last + w.callers[2].last
			w.step(t, what, r.Intn(1000))
			called += w.callers[0].last + w.callers[1].last + w.callers[2].last - before
			if len(w.n.List()) > 50 { // so that what is new has room
				for range 40 {
					checkErr(t, w.n.Drop(r.Intn(len(w.n.List()))), nil)
				}
			}
			if what == 0 || len(w.n.List()) == 0 {
				w.ask(t, w.callers[r.Intn(3)], "", true)
			}
		}
		if len(w.done) != api.MaxReplies || w.anew != 0 {
			t.Fatalf("%d were done, %d anew", len(w.done), w.anew)
		}
	}
}

// P153: a request that is not known any more is done anew; its caller hears one reply alone.
func TestDoneAnew(t *testing.T) {
	w := begin(t, 1)
	a, b := w.callers[0], w.callers[1]
	w.ask(t, a, w.texts[0], false)
	w.ask(t, a, "", true)
	w.step(t, 3, 0) // a's is done
	w.ask(t, b, w.texts[0], false)
	w.step(t, 3, 2) // b's is done, and a's forgotten
	w.step(t, 3, 0) // a's comes once more
	if w.anew != 1 || w.counted != 3 {
		t.Fatal(w.anew, w.counted)
	}
	for range 3 {
		w.step(t, 3, 0)
	}
	has(t, w.n)
	if w.heard != 2 {
		t.Error(w.heard)
	}
}

// FuzzCall takes a byte for how many are kept, and then two for each thing that happens: what, and by whom or to which message.
func FuzzCall(f *testing.F) {
	for _, s := range []string{"", "\x01", "\x00\x00\x00\x02\x00\x03\x00\x03\x00\x03\x00\x03\x00", "\x01\x00\x00\x08\x00\x00\x01\x03\x01\x03\x00\x09\x00\x09\x01\x03\x00", "\x13\x00\x09\x06\x00\x06\x00\x07\x00\x06\x00\x03\x01\x00\x00"} {
		f.Add(s)
	}
	f.Fuzz(func(t *testing.T, s string) {
		if s == "" {
			return
		}
		w := begin(t, 1+int(s[0])%api.MaxReplies)
		s = s[1:]
		for i := 0; len(s) >= 2 && i < 300; i++ {
			w.step(t, int(s[0]), int(s[1]))
			s = s[2:]
		}
	})
}
