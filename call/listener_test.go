package call_test

import (
	"math"
	"slices"
	"strings"
	"sync"
	"testing"

	"pigeonholes/api"
	"pigeonholes/call"
	"pigeonholes/net"
	"pigeonholes/serve"
	"pigeonholes/wire"
)

// P152: ErrName, ErrShape of no server, cache's ErrBound, in this order; then there is no listener.
func TestNewListener(t *testing.T) {
	s := server(t, 2)
	fails := func(want error, name string, s *serve.Server, most int) {
		t.Helper()
		l, err := call.NewListener(name, s, most)
		checkErr(t, err, want)
		if l != nil {
			t.Errorf("%.20q, %d: a listener", name, most)
		}
	}
	wrong := []int{math.MinInt, -1, 0, api.MaxReplies + 1, 1<<32 + 1, math.MaxInt}
	for _, bad := range noNames {
		fails(api.ErrName, bad, s, 1)
		fails(api.ErrName, bad, nil, 1)
		fails(api.ErrName, bad, s, 0)
		fails(api.ErrName, bad, nil, 0)
	}
	for _, name := range someNames {
		fails(api.ErrShape, name, nil, 1)
		for _, most := range wrong {
			fails(api.ErrShape, name, nil, most)
			fails(api.ErrBound, name, s, most)
		}
		for most := 1; most <= api.MaxReplies; most++ {
			l, err := call.NewListener(name, s, most)
			checkErr(t, err, nil)
			hears(t, l, message{From: "a", To: name, Text: textOf(request{1, ops(t)})}, true, message{From: name, To: "a", Text: textOf(request{1, replies(t)})})
		}
	}
}

// P152: a request is done by the server, as Compound would, and its replies go back to who sent it, by the same ID.
func TestDone(t *testing.T) {
	there, here := server(t, 20), server(t, 20)
	l := listener(t, there, 3)
	for i, c := range [][]op{
		{},
		{{Kind: "root"}, {Kind: "make", Name: "a.txt", A: api.File}, {Kind: "write", Text: "abc"}, {Kind: "handle"}},
		{{Kind: "root"}, {Kind: "make", Name: "docs", A: api.Dir}, {Kind: "up"}, {Kind: "list", B: 60}, {Kind: "attr", A: 31}},
		{{Kind: "client", Name: "ann", A: 1}, {Kind: "confirm", Client: 1, A: 1}, {Kind: "root"}, {Kind: "lookup", Name: "a.txt"}, {Kind: "open", Client: 1, B: -7, C: 3}},
		{{Kind: "root"}, {Kind: "lookup", Name: "a.txt"}, {Kind: "read", B: 9}, {Kind: "list", B: 1}, {Kind: "root"}},
		{{Kind: "no kind"}},
		slices.Repeat([]op{{Kind: "root"}}, api.MaxOps),
		{{Kind: "make", Name: "b", A: api.File}},
	} {
		want, err := here.Compound(c)
		checkErr(t, err, nil)
		from, id := someNames[i], i*i*1<<40
		hears(t, l, asked(from, id, ops(t, c...)), true, told(from, id, replies(t, want...)))
		if look(there) != look(here) {
			t.Fatalf("%+v: %+v; want %+v", c, look(there), look(here))
		}
	}
}

// P152: a request that is known is not done, and its reply is sent again, the same each time.
func TestKnown(t *testing.T) {
	s := server(t, 20)
	l := listener(t, s, 2)
	text := ops(t, op{Kind: "root"}, op{Kind: "make", Name: "x", A: api.File})
	want := told("a", 1, replies(t, reply{}, reply{}))
	hears(t, l, asked("a", 1, text), true, want)
	after := look(s)
	for range 5 {
		hears(t, l, asked("a", 1, text), false, want)
	}
	if look(s) != after {
		t.Errorf("%+v", look(s))
	}
	if _, err := s.Compound([]op{{Kind: "root"}, {Kind: "remove", Name: "x"}}); err != nil {
		t.Fatal(err)
	}
	gone := look(s)
	hears(t, l, asked("a", 1, text), false, want) // also where it would go well anew
	if look(s) != gone {
		t.Errorf("%+v", look(s))
	}
}

// P152: what had an error is known as well, and is not tried anew, though it would go well now.
func TestKnownErrors(t *testing.T) {
	s := server(t, 20)
	l := listener(t, s, 2)
	text := ops(t, op{Kind: "root"}, op{Kind: "lookup", Name: "x"})
	want := told("a", 1, replies(t, reply{}, reply{Code: code(api.ErrNone)}))
	hears(t, l, asked("a", 1, text), true, want)
	if _, err := s.Tree().Create(s.Tree().Root(), "x", api.File); err != nil {
		t.Fatal(err)
	}
	hears(t, l, asked("a", 1, text), false, want)
	hears(t, l, asked("a", 2, text), true, told("a", 2, replies(t, reply{}, reply{})))
}

// P152: a request is who sent it, and its ID, both: others have the same ID, or the same text.
func TestUnlike(t *testing.T) {
	l := listener(t, server(t, 2), api.MaxReplies)
	who := []struct {
		from string
		id   int
	}{{"a", 1}, {"b", 1}, {"a", 2}, {"A", 1}, {"a", 0}, {"a1", 1}, {"a", 11}, {"a", 1 + 1<<32}, {"a", math.MaxInt}, {"server", 1}}
	for round := range 3 {
		for i, w := range who {
			want := replies(t, reply{N: i + 1, State: api.State{ID: i + 1}})
			hears(t, l, asked(w.from, w.id, count(t)), round == 0, told(w.from, w.id, want))
		}
	}
}

// P152: what cannot be read has the reply of one Reply with its Code; it is kept like all others.
func TestCannotBeRead(t *testing.T) {
	seventeen := strings.Replace(ops(t, make([]op, api.MaxOps)...), "\x10", "\x11", 1) + ops(t, op{})[4:]
	for i, c := range []struct {
		text string
		want error
	}{
		{"", api.ErrText},
		{"what is that", api.ErrText},
		{"\x00\x00\x00\x01", api.ErrText},
		{ops(t, op{Kind: "root"}) + "\x00\x00\x00\x00", api.ErrText},
		{ops(t, op{Kind: "root"})[4:], api.ErrText},
		{strings.Repeat("\xff", mostText), api.ErrText},
		{seventeen, api.ErrBound},
	} {
		if _, err := wire.ReadOps(c.text); err != c.want {
			t.Fatalf("%.30q: %v", c.text, err)
		}
		s := server(t, 2)
		l := listener(t, s, 2)
		before := look(s)
		want := told("a", i, replies(t, reply{Code: code(c.want)}))
		hears(t, l, asked("a", i, c.text), true, want)
		for range 3 {
			hears(t, l, asked("a", i, c.text), false, want)
		}
		refuses(t, l, s, asked("a", i, count(t)))
		if look(s) != before {
			t.Errorf("%.30q: %+v", c.text, look(s))
		}
		hears(t, l, asked("b", i, count(t)), true, told("b", i, replies(t, reply{N: 1, State: api.State{ID: 1}})))
	}
}

// P152: what is no request, or not to it: nothing is done, sent, or kept.
func TestNoRequest(t *testing.T) {
	s := server(t, 2)
	l := listener(t, s, 1)
	hears(t, l, asked("a", 1, count(t)), true, told("a", 1, replies(t, reply{N: 1, State: api.State{ID: 1}})))
	right := textOf(request{2, count(t)})
	for _, m := range []message{
		{},
		{From: "a", To: "server"},
		{From: "a", To: "server", Text: "?"},
		{From: "a", To: "server", Text: count(t)},
		{From: "a", To: "server", Text: right + "\x00\x00\x00\x00"},
		{From: "a", To: "server", Text: right[:len(right)-1]},
		{From: "a", To: "server", Text: "\x80" + right[1:]},
		{From: "a", To: "b", Text: right},
		{From: "a", To: "a", Text: right},
		{From: "server", To: "a", Text: right},
		{From: "a", To: "Server", Text: right},
		{From: "a", To: "serve", Text: right},
		{From: "a", To: "server2", Text: right},
		{From: "a", To: "", Text: right},
		{From: "a", To: "b", Text: textOf(request{1, count(t)})},
		{From: "", To: "", Text: right},
	} {
		refuses(t, l, s, m)
		hears(t, l, asked("a", 1, count(t)), false, told("a", 1, replies(t, reply{N: 1, State: api.State{ID: 1}})))
	}
	hears(t, l, asked("a", 2, count(t)), true, told("a", 2, replies(t, reply{N: 2, State: api.State{ID: 2}})))
}

// P152: known with another text: nothing, and the first one stays known; also where the other, or the first, cannot be read.
func TestAnotherText(t *testing.T) {
	s := server(t, 9)
	l := listener(t, s, 3)
	list := []string{ops(t, op{Kind: "root"}, op{Kind: "make", Name: "x", A: api.File}), "what is that", ops(t)}
	want := []message{told("a", 0, replies(t, reply{}, reply{})), told("a", 1, replies(t, reply{Code: code(api.ErrText)})), told("a", 2, replies(t))}
	for i, text := range list {
		hears(t, l, asked("a", i, text), true, want[i])
	}
	for i, text := range list {
		for _, other := range append(list, "", text+"\x00", ops(t, op{Kind: "root"}, op{Kind: "make", Name: "y", A: api.File})) {
			if other != text {
				refuses(t, l, s, asked("a", i, other))
			}
		}
		hears(t, l, asked("a", i, text), false, want[i])
	}
}

// P152: the last most are known, of all callers together; what was kept first is done anew.
func TestMost(t *testing.T) {
	for most := 1; most <= api.MaxReplies; most++ {
		l := listener(t, server(t, 2), most)
		done := 0
		hear := func(i int, did bool, number int) {
			t.Helper()
			from := someNames[i%3]
			hears(t, l, asked(from, i, count(t)), did, told(from, i, replies(t, reply{N: number, State: api.State{ID: number}})))
		}
		for i := range 2*most + 1 {
			done++
			hear(i, true, done)
			for j := max(0, i-most+1); j <= i; j++ {
				hear(j, false, j+1)
			}
		}
		hear(0, true, done+1)
		hear(most+1, true, done+2) // which went for it
	}
}

// P152: net's errors: the request is done, and kept all the same; once there is room its reply is sent.
func TestNetIsFull(t *testing.T) {
	for _, text := range []string{count(t), "what is that"} {
		l := listener(t, server(t, 2), 2)
		n := full(t)
		before := n.List()
		for range 3 {
			did, err := l.Hear(n, asked("a", 1, text))
			checkErr(t, err, api.ErrFull)
			if did {
				t.Error("did, with an error")
			}
			has(t, n, before...)
		}
		want := told("a", 1, replies(t, reply{Code: code(api.ErrText)}))
		number := 1
		if text == count(t) {
			want = told("a", 1, replies(t, reply{N: 1, State: api.State{ID: 1}}))
			number = 2
		}
		checkErr(t, n.Drop(0), nil)
		if did, err := l.Hear(n, asked("a", 1, text)); did || err != nil {
			t.Fatal(did, err)
		}
		has(t, n, append(before[1:], want)...)
		hears(t, l, asked("a", 2, count(t)), true, told("a", 2, replies(t, reply{N: number, State: api.State{ID: number}})))
	}
}

// P152: what needs no reply has no error of a full net.
func TestNothingOnAFullNet(t *testing.T) {
	l := listener(t, server(t, 2), 2)
	hears(t, l, asked("a", 1, count(t)), true, told("a", 1, replies(t, reply{N: 1, State: api.State{ID: 1}})))
	n := full(t)
	for _, m := range []message{{From: "a", To: "server", Text: "?"}, {From: "a", To: "b", Text: textOf(request{2, count(t)})}, asked("a", 1, "another one")} {
		if did, err := l.Hear(n, m); did || err != nil {
			t.Errorf("%q: %t, %v", m, did, err)
		}
	}
}

// P152: net's errors: from who has no name a request is done, and kept, but nothing can be sent there.
func TestFromNoName(t *testing.T) {
	for _, from := range noNames {
		l := listener(t, server(t, 2), 2)
		n := &net.Net{}
		for range 3 {
			did, err := l.Hear(n, asked(from, 1, count(t)))
			checkErr(t, err, api.ErrName)
			if did {
				t.Error("did, with an error")
			}
		}
		has(t, n)
		hears(t, l, asked("a", 1, count(t)), true, told("a", 1, replies(t, reply{N: 2, State: api.State{ID: 2}})))
	}
}

// P152: replies that do not go on the wire, alone or as a request's text: one Reply with Code of ErrFull; what was done stays done, once.
func TestReplyTooLong(t *testing.T) {
	const ahead = 4 + 4*84 // how many, and four replies
	const most = mostText - ahead
	for i, many := range []int{0, most - 1, most, most + 1, most + 12, most + 13, api.MaxFile} {
		s := server(t, 3)
		tree := s.Tree()
		f, err := tree.Create(tree.Root(), "f", api.File)
		checkErr(t, err, nil)
		checkErr(t, tree.Write(f, 0, strings.Repeat("x", api.MaxFile)), nil)
		l := listener(t, s, 2)
		text := ops(t, op{Kind: "root"}, op{Kind: "lookup", Name: "f"}, op{Kind: "read", B: many}, op{Kind: "client", Name: "counter"})
		want := told("a", i, replies(t, reply{Code: code(api.ErrFull)}))
		if many <= most {
			want = told("a", i, replies(t, reply{}, reply{}, reply{Text: strings.Repeat("x", many)}, reply{N: 1, State: api.State{ID: 1}}))
		}
		if goes := len(want.Text) <= api.MaxText; !goes {
			t.Fatalf("%d: %d", many, len(want.Text))
		}
		hears(t, l, asked("a", i, text), true, want)
		hears(t, l, asked("a", i, text), false, want)
		refuses(t, l, s, asked("a", i, text+"\x00"))
		hears(t, l, asked("b", i, count(t)), true, told("b", i, replies(t, reply{N: 2, State: api.State{ID: 2}})))
	}
}

// P152: a listener's server is not its own: what is done beside it is there.
func TestServerIsShared(t *testing.T) {
	s := server(t, 9)
	one := listener(t, s, 2)
	two, err := call.NewListener("other", s, 2)
	checkErr(t, err, nil)
	text := ops(t, op{Kind: "root"}, op{Kind: "make", Name: "x", A: api.File})
	hears(t, one, asked("a", 1, text), true, told("a", 1, replies(t, reply{}, reply{})))
	refuses(t, two, s, asked("a", 1, text))
	to := message{From: "a", To: "other", Text: textOf(request{1, text})} // another one has not heard it
	hears(t, two, to, true, message{From: "other", To: "a", Text: textOf(request{1, replies(t, reply{}, reply{Code: code(api.ErrExist)})})})
}

// P2: calls of their own, worked on side by side, do not see each other.
func TestSideBySide(t *testing.T) {
	var group sync.WaitGroup
	for i := range 8 {
		s := server(t, 2)
		l, c, text := listener(t, s, 1+i), caller(t, "a"), count(t)
		group.Go(func() {
			n := &net.Net{}
			for k := range 200 {
				if id, err := c.Call(n, text); id != k+1 || err != nil {
					t.Errorf("%d: %d, %v", k, id, err)
				}
				m, _ := n.Take(0)
				if did, err := l.Hear(n, m); !did || err != nil {
					t.Errorf("%d: %t, %v", k, did, err)
				}
				m, _ = n.Take(0)
				got, is := c.Hear(m)
				if r, err := wire.ReadReplies(got); !is || err != nil || len(r) != 1 || r[0].N != k+1 {
					t.Errorf("%d: %+v, %t, %v", k, r, is, err)
				}
			}
		})
	}
	group.Wait()
}

// What README.md says of calls.
func TestReadme(t *testing.T) {
	s := server(t, 100)
	l, c, n := listener(t, s, 20), caller(t, "ann"), &net.Net{}
	text := ops(t, op{Kind: "root"}, op{Kind: "make", Name: "a.txt", A: api.File})
	if id, err := c.Call(n, text); id != 1 || err != nil {
		t.Fatal(id, err)
	}
	checkErr(t, c.Again(n), nil)
	for i := range 2 {
		m, err := n.Take(n.For("server"))
		checkErr(t, err, nil)
		if did, err := l.Hear(n, m); did != (i == 0) || err != nil {
			t.Fatal(i, did, err)
		}
	}
	for i := range 2 {
		m, err := n.Take(n.For("ann"))
		checkErr(t, err, nil)
		answer, is := c.Hear(m)
		if is != (i == 0) {
			t.Fatal(i, is)
		}
		if is {
			reads(t, answer, reply{}, reply{})
		}
	}
	has(t, n)
	if s.Tree().Nodes() != 2 {
		t.Error(s.Tree().Nodes())
	}
}
