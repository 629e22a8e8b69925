package call_test

import (
	"math"
	"strings"
	"testing"

	"pigeonholes/api"
	"pigeonholes/call"
	"pigeonholes/net"
)

// calls: it goes, by this ID, and is on its way alone.
func calls(t *testing.T, c *call.Caller, name, text string, id int) {
	t.Helper()
	n := &net.Net{}
	got, err := c.Call(n, text)
	checkErr(t, err, nil)
	if got != id {
		t.Fatalf("%d; want %d", got, id)
	}
	has(t, n, asked(name, id, text))
}

// passesOver a message.
func passesOver(t *testing.T, c *call.Caller, m message) {
	t.Helper()
	if text, is := c.Hear(m); text != "" || is {
		t.Fatalf("%.100q: %.100q, %t", m, text, is)
	}
}

// takes a message as what it waits for.
func takes(t *testing.T, c *call.Caller, m message, want string) {
	t.Helper()
	if text, is := c.Hear(m); text != want || !is {
		t.Fatalf("%.100q: %.100q, %t", m, text, is)
	}
}

// waits for what it asked: another call is held off, and it is sent again, alone.
func waits(t *testing.T, c *call.Caller, name, text string, id int) {
	t.Helper()
	n := &net.Net{}
	got, err := c.Call(n, text)
	checkErr(t, err, api.ErrHeld)
	if got != 0 {
		t.Fatal(got)
	}
	has(t, n)
	checkErr(t, c.Again(n), nil)
	has(t, n, asked(name, id, text))
}

// waitsNot: there is nothing to be sent again.
func waitsNot(t *testing.T, c *call.Caller) {
	t.Helper()
	n := &net.Net{}
	checkErr(t, c.Again(n), api.ErrNone)
	has(t, n)
}

// P151: ErrName: the caller's name, or the server's, is none; then there is no caller.
func TestNewCaller(t *testing.T) {
	for _, bad := range noNames {
		for _, l := range [][2]string{{bad, "server"}, {"a", bad}, {bad, bad}} {
			c, err := call.NewCaller(l[0], l[1])
			checkErr(t, err, api.ErrName)
			if c != nil {
				t.Errorf("%.30q: a caller", l)
			}
		}
	}
	for _, name := range someNames {
		for _, to := range someNames {
			c, err := call.NewCaller(name, to)
			checkErr(t, err, nil)
			n := &net.Net{}
			if id, err := c.Call(n, "x"); id != 1 || err != nil {
				t.Fatal(id, err)
			}
			has(t, n, message{From: name, To: to, Text: textOf(request{1, "x"})})
			takes(t, c, message{From: to, To: name, Text: textOf(request{1, "y"})}, "y")
		}
	}
}

// P151: IDs are from 1 on, one behind the other, and each call is sent behind what is on its way.
func TestIDs(t *testing.T) {
	c := caller(t, "a")
	waitsNot(t, c)
	n := &net.Net{}
	var want []message
	for id := 1; id <= api.MaxMessages; id++ {
		text := strings.Repeat("x", id%5)
		got, err := c.Call(n, text)
		checkErr(t, err, nil)
		if got != id {
			t.Fatalf("%d; want %d", got, id)
		}
		want = append(want, asked("a", id, text))
		has(t, n, want...)
		takes(t, c, told("a", id, "r"), "r")
	}
}

// P151: a caller's IDs are its own.
func TestIDsOfUnlike(t *testing.T) {
	a, b := caller(t, "a"), caller(t, "b")
	calls(t, a, "a", "x", 1)
	calls(t, b, "b", "x", 1)
	takes(t, a, told("a", 1, "y"), "y")
	calls(t, a, "a", "x", 2)
	waits(t, b, "b", "x", 1)
}

// P151: ErrHeld as long as one waits, ahead of all else; what waits is not changed by it.
func TestHeld(t *testing.T) {
	c := caller(t, "a")
	calls(t, c, "a", "first", 1)
	many := full(t)
	for _, text := range []string{"", "first", "second", strings.Repeat("x", mostText+1), strings.Repeat("x", 1<<20)} {
		for _, n := range []*net.Net{{}, many} {
			l := n.List()
			id, err := c.Call(n, text)
			checkErr(t, err, api.ErrHeld)
			if id != 0 {
				t.Error(id)
			}
			has(t, n, l...)
		}
		waits(t, c, "a", "first", 1)
	}
	takes(t, c, told("a", 1, ""), "")
	calls(t, c, "a", "second", 2)
}

// P151: any text goes, up to the longest, and none is one, too.
func TestCallTexts(t *testing.T) {
	c := caller(t, "a")
	for i, text := range []string{"", "x", "\x00", "\xff\xfe", "ä\n", strings.Repeat("x", mostText)} {
		calls(t, c, "a", text, i+1)
		waits(t, c, "a", text, i+1)
		takes(t, c, told("a", i+1, text), text)
		waitsNot(t, c)
	}
}

// P151: Encode's errors, and then net's: nothing is sent, no ID is used, nothing waits.
func TestCallFails(t *testing.T) {
	c := caller(t, "a")
	fails := func() {
		t.Helper()
		n := &net.Net{}
		many := full(t)
		l := many.List()
		for _, f := range []struct {
			n    *net.Net
			text string
		}{{n, strings.Repeat("x", mostText+1)}, {n, strings.Repeat("x", api.MaxText+1)}, {n, strings.Repeat("x", 1<<20)}, {many, "x"}, {many, ""}, {many, strings.Repeat("x", mostText+1)}} {
			id, err := c.Call(f.n, f.text)
			checkErr(t, err, api.ErrFull)
			if id != 0 {
				t.Error(id)
			}
			waitsNot(t, c)
			passesOver(t, c, told("a", 1, "r"))
			passesOver(t, c, told("a", 2, "r"))
		}
		has(t, n)
		has(t, many, l...)
	}
	fails()
	calls(t, c, "a", "x", 1)
	takes(t, c, told("a", 1, "r"), "r")
	fails()
	calls(t, c, "a", "x", 2)
}

// P151: what waits is sent once more, as often as it is asked for, on any net, and by the same ID.
func TestAgain(t *testing.T) {
	c := caller(t, "a")
	waitsNot(t, c)
	n := &net.Net{}
	if id, err := c.Call(n, "x"); id != 1 || err != nil {
		t.Fatal(id, err)
	}
	want := []message{asked("a", 1, "x")}
	for range api.MaxMessages - 1 {
		checkErr(t, c.Again(n), nil)
		want = append(want, asked("a", 1, "x"))
		has(t, n, want...)
	}
	checkErr(t, c.Again(n), api.ErrFull)
	has(t, n, want...)
	waits(t, c, "a", "x", 1)
	takes(t, c, told("a", 1, "y"), "y")
	checkErr(t, c.Again(n), api.ErrNone) // ahead of net's
	waitsNot(t, c)
	calls(t, c, "a", "z", 2)
	waits(t, c, "a", "z", 2)
}

// P151: only what is from the server, to the caller, with the ID that waits; all else is passed over, and it waits on.
func TestHearOthers(t *testing.T) {
	c := caller(t, "a")
	passesOver(t, c, told("a", 0, "y"))
	passesOver(t, c, told("a", 1, "y"))
	calls(t, c, "a", "x", 1)
	takes(t, c, told("a", 1, "y"), "y")
	for _, id := range []int{0, 1, 2} {
		passesOver(t, c, told("a", id, "y"))
	}
	calls(t, c, "a", "x", 2)
	right := textOf(request{2, "y"})
	for _, m := range []message{
		{},
		{From: "server", To: "a"},
		{From: "server", To: "b", Text: right},
		{From: "server", To: "server", Text: right},
		{From: "server", To: "", Text: right},
		{From: "server", To: "A", Text: right},
		{From: "server", To: "aa", Text: right},
		{From: "b", To: "a", Text: right},
		{From: "a", To: "a", Text: right},
		{From: "", To: "a", Text: right},
		{From: "Server", To: "a", Text: right},
		{From: "server2", To: "a", Text: right},
		{From: "a", To: "server", Text: right},
		{From: "server", To: "a", Text: "y"},
		{From: "server", To: "a", Text: right + "\x00\x00\x00\x00"},
		{From: "server", To: "a", Text: right[:len(right)-1]},
		{From: "server", To: "a", Text: right[:8]},
		told("a", 0, "y"), told("a", 1, "y"), told("a", 3, "y"), told("a", 2+1<<32, "y"), told("a", 2+1<<8, "y"), told("a", math.MaxInt, "y"), told("a", -2, "y"),
	} {
		passesOver(t, c, m)
		waits(t, c, "a", "x", 2)
	}
	takes(t, c, told("a", 2, "y"), "y")
	waitsNot(t, c)
	passesOver(t, c, told("a", 2, "y"))
}

// P151: a reply's text is any, told as it is; also none.
func TestHearTexts(t *testing.T) {
	c := caller(t, "a")
	for i, text := range []string{"", "x", "\x00", "\xff\xfe", "ä\n", strings.Repeat("x", mostText)} {
		calls(t, c, "a", "x", i+1)
		takes(t, c, told("a", i+1, text), text)
		passesOver(t, c, told("a", i+1, text))
	}
}
