package net_test

import (
	"math/rand"
	"slices"
	"strings"
	"testing"

	"pigeonholes/api"
	"pigeonholes/names"
	"pigeonholes/net"
)

// book is a net as P140 has it: each message a link to the one behind it, so that it is made otherwise than a net is.
type book struct{ first *link }

type link struct {
	m    net.Message
	next *link
}

// links from the first on.
func (b *book) links() []*link {
	var l []*link
	for x := b.first; x != nil; x = x.next {
		l = append(l, x)
	}
	return l
}

// place where number at hangs, or none.
func (b *book) place(at int) **link {
	for p := &b.first; *p != nil; p = &(*p).next {
		if at == 0 {
			return p
		}
		at--
	}
	return nil
}

func (b *book) send(m net.Message) error {
	switch {
	case names.Check(m.From) != nil || names.Check(m.To) != nil:
		return api.ErrName
	case len(m.Text) > api.MaxText:
		return api.ErrBound
	}
	p, count := &b.first, 0
	for *p != nil {
		p = &(*p).next
		count++
	}
	if count == api.MaxMessages {
		return api.ErrFull
	}
	*p = &link{m: m}
	return nil
}

func (b *book) take(at int) (net.Message, error) {
	p := b.place(at)
	if p == nil {
		return net.Message{}, api.ErrNone
	}
	m := (*p).m
	*p = (*p).next
	return m, nil
}

func (b *book) twice(at int) error {
	p := b.place(at)
	switch {
	case p == nil:
		return api.ErrNone
	case len(b.links()) == api.MaxMessages:
		return api.ErrFull
	}
	(*p).next = &link{m: (*p).m, next: (*p).next}
	return nil
}

func (b *book) firstTo(to string) int {
	for i, x := range b.links() {
		if x.m.To == to {
			return i
		}
	}
	return -1
}

// compare all that both tell.
func compare(t *testing.T, n *net.Net, b *book) {
	t.Helper()
	var want []net.Message
	for _, x := range b.links() {
		want = append(want, x.m)
	}
	has(t, n, want)
	for _, to := range []string{"", "a", "b", "c", "d", ".."} {
		if at, want := n.For(to), b.firstTo(to); at != want {
			t.Fatalf("%q: %d; want %d", to, at, want)
		}
	}
}

// call is one of a net's methods, and what it is given.
type call struct {
	what, at int
	m        net.Message
}

// step does one call to both, and tells its error.
func step(t *testing.T, n *net.Net, b *book, c call) error {
	t.Helper()
	var got, want net.Message
	var err, wantErr error
	switch c.what % 8 {
	case 0, 1, 2, 3:
		err, wantErr = n.Send(c.m), b.send(c.m)
	case 4:
		got, err = n.Take(c.at)
		want, wantErr = b.take(c.at)
	case 5:
		err = n.Drop(c.at)
		_, wantErr = b.take(c.at)
	case 6, 7:
		err, wantErr = n.Twice(c.at), b.twice(c.at)
	}
	if got != want || err != wantErr {
		t.Fatalf("%d, %d, %.100q: %q, %v; want %q, %v", c.what, c.at, c.m, got, err, want, wantErr)
	}
	compare(t, n, b)
	return err
}

// P140: after any calls a net is as the book has it; some stay near empty, some near full.
func TestAsItsBook(t *testing.T) {
	met := map[error]int{}
	for seed := range int64(100) {
		r := rand.New(rand.NewSource(seed))
		n, b := &net.Net{}, &book{}
		for i := range 400 {
			c := call{what: r.Intn(8), at: r.Intn(len(b.links())+3) - 1}
			if seed%2 == 0 { // as many go as come
				c.what = []int{0, 4, 5, 6}[r.Intn(4)]
			}
			c.m = net.Message{From: string(rune('a' + r.Intn(4))), To: string(rune('a' + r.Intn(4))), Text: nth(i).Text}
			switch r.Intn(20) {
			case 0:
				c.m.From = noNames[r.Intn(len(noNames))]
			case 1:
				c.m.To = noNames[r.Intn(len(noNames))]
			case 2:
				c.m.Text = strings.Repeat("x", api.MaxText+r.Intn(2))
			}
			met[step(t, n, b, c)]++
		}
	}
	for _, err := range []error{nil, api.ErrName, api.ErrBound, api.ErrFull, api.ErrNone} {
		if met[err] < 100 {
			t.Errorf("%v was met %d times", err, met[err])
		}
	}
}

// P141: nothing comes that was not sent: what is taken, and what is told, was sent, as it was; and no more often than it was sent and doubled, less how often it was dropped.
func TestOnlyWhatWasSent(t *testing.T) {
	came := 0
	for seed := range int64(30) {
		r := rand.New(rand.NewSource(seed))
		n := &net.Net{}
		on := map[net.Message]int{} // how often each is on its way
		for i := range 1000 {
			l := n.List()
			at := r.Intn(len(l)+2) - 1
			inside := at >= 0 && at < len(l)
			switch r.Intn(5) {
			case 0, 1:
				m := nth(i)
				if r.Intn(4) == 0 {
					m.To = "no name"
				}
				if n.Send(m) == nil {
					on[m]++
				}
			case 2:
				if n.Twice(at) == nil && inside {
					on[l[at]]++
				}
			case 3:
				if n.Drop(at) == nil && inside {
					on[l[at]]--
				}
			case 4:
				if m, err := n.Take(at); err == nil {
					on[m]--
					came++
				}
			}
			counted(t, n, on)
		}
	}
	if came < 1000 {
		t.Errorf("%d came", came)
	}
}

// counted: the net has each just so often.
func counted(t *testing.T, n *net.Net, on map[net.Message]int) {
	t.Helper()
	l := n.List()
	for m, often := range on {
		if often == 0 {
			delete(on, m)
		}
	}
	told := map[net.Message]int{}
	for _, m := range l {
		told[m]++
	}
	for m, often := range told {
		if on[m] != often {
			t.Fatalf("%q: %d times; want %d", m, often, on[m])
		}
	}
	if len(told) != len(on) {
		t.Fatalf("%d messages; want %d", len(told), len(on))
	}
}

// P141: messages may be turned around, by which is taken first; each that is sent still comes, once.
func TestTurnedAround(t *testing.T) {
	for seed := range int64(50) {
		r := rand.New(rand.NewSource(seed))
		n, l := full(t)
		var came []net.Message
		for range l {
			m, err := n.Take(r.Intn(len(l) - len(came)))
			checkErr(t, err, nil)
			came = append(came, m)
		}
		has(t, n, nil)
		for _, m := range l {
			if i := slices.Index(came, m); i >= 0 {
				came = slices.Delete(came, i, i+1)
			} else {
				t.Fatalf("%q did not come", m)
			}
		}
	}
}

// FuzzNet takes three bytes for each call: what it is, which number, and from whom to whom a message is.
func FuzzNet(f *testing.F) {
	for _, s := range []string{"", "\x00\x00\x01\x00\x00\x12\x06\x00\x00\x04\x01\x00\x05\x00\x00", "\x00\x00\x01\x06\x00\x00\x06\x01\x00\x06\xff\x00\x04\x09\x00", "\x00\x00\x77\x00\x00\x07\x00\x00\x70\x80\x00\x01\x81\x00\x21"} {
		f.Add(s)
	}
	who := []string{"a", "b", "c", "d", "A", "...", strings.Repeat("x", api.MaxName), "..", "", "a/b"}
	f.Fuzz(func(t *testing.T, s string) {
		n, b := &net.Net{}, &book{}
		for i := 0; len(s) >= 3 && i < 300; i++ {
			c := call{what: int(s[0]), at: int(int8(s[1])), m: nth(i)}
			c.m.From, c.m.To = who[int(s[2]>>4)%len(who)], who[int(s[2]&15)%len(who)]
			if s[0] >= 128 { // around the longest
				c.m.Text = strings.Repeat("x", api.MaxText+int(s[1]%2))
			}
			step(t, n, b, c)
			s = s[3:]
		}
	})
}
