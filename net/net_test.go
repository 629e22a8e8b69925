package net_test

import (
	"errors"
	"math"
	"slices"
	"strconv"
	"strings"
	"sync"
	"testing"

	"pigeonholes/api"
	"pigeonholes/net"
	"pigeonholes/plain"
)

// What the package exports, as it was given.
var (
	_ func(*net.Net, net.Message) error        = (*net.Net).Send
	_ func(*net.Net, int) (net.Message, error) = (*net.Net).Take
	_ func(*net.Net, int) error                = (*net.Net).Drop
	_ func(*net.Net, int) error                = (*net.Net).Twice
	_ func(*net.Net, string) int               = (*net.Net).For
	_ func(*net.Net) []net.Message             = (*net.Net).List
	_                                          = struct{ From, To, Text string }(net.Message{})
)

// Texts that are no names.
var noNames = []string{"", ".", "..", "/", "a/b", "a b", " a", "a\n", "a\x00", "\xff", "ä", "a*", strings.Repeat("x", api.MaxName+1), strings.Repeat("x", api.MaxText+1)}

// Texts that are names, up to the longest.
var someNames = []string{"a", "Z", "0", "...", ".a", "-", "_", "a.b-c_d", "server", strings.Repeat("x", api.MaxName)}

// checkErr: the error itself, without a place.
func checkErr(t *testing.T, err, want error) {
	t.Helper()
	var fault *api.Fault
	if err != want || errors.As(err, &fault) {
		t.Fatalf("%v; want %v", err, want)
	}
	if _, at := plain.Code(err); err != nil && at != -1 {
		t.Errorf("%v at %d", err, at)
	}
}

// has: these messages, in this order.
func has(t *testing.T, n *net.Net, want []net.Message) {
	t.Helper()
	if l := n.List(); !slices.Equal(l, want) {
		t.Fatalf("%.200q; want %.200q", l, want)
	}
}

// texts of the messages, one behind the other.
func texts(n *net.Net) string {
	s := ""
	for _, m := range n.List() {
		s += m.Text
	}
	return s
}

// reads: the texts are these, each of one byte.
func reads(t *testing.T, n *net.Net, want string) {
	t.Helper()
	if s := texts(n); s != want {
		t.Fatalf("%q; want %q", s, want)
	}
}

// of makes a net with a message of each of the bytes of s, from a, to b and the byte.
func of(t *testing.T, s string) *net.Net {
	t.Helper()
	n := &net.Net{}
	for i := range len(s) {
		checkErr(t, n.Send(net.Message{From: "a", To: "b" + s[i:i+1], Text: s[i : i+1]}), nil)
	}
	reads(t, n, s)
	return n
}

// nth makes messages that are unlike.
func nth(i int) net.Message {
	return net.Message{From: "f" + strconv.Itoa(i%7), To: "t" + strconv.Itoa(i%11), Text: "x" + strconv.Itoa(i)}
}

// full makes a net of as many as can be, and tells them.
func full(t *testing.T) (*net.Net, []net.Message) {
	t.Helper()
	n := &net.Net{}
	var l []net.Message
	for i := range api.MaxMessages {
		checkErr(t, n.Send(nth(i)), nil)
		l = append(l, nth(i))
	}
	has(t, n, l)
	return n, l
}

// refuses each number: by Take, Drop and Twice, with no message, and nothing is changed.
func refuses(t *testing.T, n *net.Net, numbers ...int) {
	t.Helper()
	l := n.List()
	for _, at := range numbers {
		m, err := n.Take(at)
		checkErr(t, err, api.ErrNone)
		if m != (net.Message{}) {
			t.Fatalf("%d: %q", at, m)
		}
		checkErr(t, n.Drop(at), api.ErrNone)
		checkErr(t, n.Twice(at), api.ErrNone)
		has(t, n, l)
	}
}

// P140: a zero value is empty; also one that is no pointer, or a field.
func TestZero(t *testing.T) {
	var n net.Net
	both := struct{ a, b net.Net }{}
	for _, x := range []*net.Net{&n, new(net.Net), &both.a} {
		has(t, x, nil)
		refuses(t, x, math.MinInt, -1, 0, 1, api.MaxMessages, math.MaxInt)
		for _, to := range append(noNames, someNames...) {
			if at := x.For(to); at != -1 {
				t.Errorf("%.20q: %d", to, at)
			}
		}
		checkErr(t, x.Send(nth(0)), nil)
		has(t, x, []net.Message{nth(0)})
	}
	has(t, &both.b, nil)
}

// P140: what is sent goes behind the others, as it is: who sends, who is meant, the text.
func TestSend(t *testing.T) {
	n := &net.Net{}
	var l []net.Message
	for i, text := range []string{"", "a", "\x00", "\xff\xfe", "ä\n", "a/b", strings.Repeat("x", api.MaxText-1), strings.Repeat("\xff", api.MaxText)} {
		for _, to := range someNames {
			m := net.Message{From: someNames[i], To: to, Text: text}
			checkErr(t, n.Send(m), nil)
			l = append(l, m)
			has(t, n, l)
		}
	}
}

// P140: one that is like another, or to who sends it, is one as well.
func TestSendAlike(t *testing.T) {
	n := &net.Net{}
	m := net.Message{From: "a", To: "a", Text: "x"}
	for i := range 5 {
		checkErr(t, n.Send(m), nil)
		has(t, n, slices.Repeat([]net.Message{m}, i+1))
	}
}

// P140: ErrName of From, of To, of both; ahead of a text that is too long, and of there being no room.
func TestSendNoName(t *testing.T) {
	many, _ := full(t)
	for _, n := range []*net.Net{{}, of(t, "abc"), many} {
		l := n.List()
		for _, bad := range noNames {
			for _, text := range []string{"", "x", strings.Repeat("x", api.MaxText), strings.Repeat("x", api.MaxText+1)} {
				checkErr(t, n.Send(net.Message{From: bad, To: "b", Text: text}), api.ErrName)
				checkErr(t, n.Send(net.Message{From: "a", To: bad, Text: text}), api.ErrName)
				checkErr(t, n.Send(net.Message{From: bad, To: bad, Text: text}), api.ErrName)
			}
		}
		has(t, n, l)
	}
}

// P140: ErrBound of a text of more than MaxText bytes, not runes; ahead of there being no room.
func TestSendTooLong(t *testing.T) {
	many, _ := full(t)
	for _, n := range []*net.Net{{}, of(t, "abc"), many} {
		l := n.List()
		for _, text := range []string{strings.Repeat("x", api.MaxText+1), strings.Repeat("x", 1<<20), strings.Repeat("ä", api.MaxText/2+1), strings.Repeat("\x00", api.MaxText+1)} {
			checkErr(t, n.Send(net.Message{From: "a", To: "b", Text: text}), api.ErrBound)
		}
		has(t, n, l)
	}
}

// P140: ErrFull of one more than MaxMessages, sent or there a second time; each that goes makes room for one.
func TestFull(t *testing.T) {
	n, l := full(t)
	for range 3 {
		for _, text := range []string{"", "x", strings.Repeat("x", api.MaxText)} {
			checkErr(t, n.Send(net.Message{From: "a", To: "b", Text: text}), api.ErrFull)
		}
		for at := range api.MaxMessages {
			checkErr(t, n.Twice(at), api.ErrFull)
		}
		has(t, n, l)
	}
	refuses(t, n, math.MinInt, -1, api.MaxMessages, api.MaxMessages+1, math.MaxInt) // Twice: ErrNone ahead of ErrFull
	for i := range 2 * api.MaxMessages {
		if i%2 == 0 {
			checkErr(t, n.Drop(i%api.MaxMessages), nil)
		} else if _, err := n.Take(i % api.MaxMessages); err != nil {
			t.Fatal(err)
		}
		if i%3 == 0 {
			checkErr(t, n.Twice(0), nil)
		} else {
			checkErr(t, n.Send(nth(i)), nil)
		}
		checkErr(t, n.Twice(i%api.MaxMessages), api.ErrFull)
		checkErr(t, n.Send(nth(i)), api.ErrFull)
		if len(n.List()) != api.MaxMessages {
			t.Fatalf("%d messages", len(n.List()))
		}
	}
}

// P140: one that is there a second time fills a net like one that is sent.
func TestFullByTwice(t *testing.T) {
	n := of(t, "a")
	for range api.MaxMessages - 1 {
		checkErr(t, n.Twice(0), nil)
	}
	reads(t, n, strings.Repeat("a", api.MaxMessages))
	checkErr(t, n.Twice(0), api.ErrFull)
	checkErr(t, n.Send(nth(1)), api.ErrFull)
	reads(t, n, strings.Repeat("a", api.MaxMessages))
}

// P140: any number is taken, the first, the last and those between; it is told whole, and the others stay in their order.
func TestTake(t *testing.T) {
	for at, want := range []string{"bcde", "acde", "abde", "abce", "abcd"} {
		n := of(t, "abcde")
		m, err := n.Take(at)
		checkErr(t, err, nil)
		s := "abcde"[at : at+1]
		if m != (net.Message{From: "a", To: "b" + s, Text: s}) {
			t.Errorf("%d: %q", at, m)
		}
		reads(t, n, want)
		refuses(t, n, -1, 4, 5)
	}
}

// P140: all are taken, until none is there; and then it goes on.
func TestTakeAll(t *testing.T) {
	n, l := full(t)
	for i, want := range l {
		m, err := n.Take(0)
		checkErr(t, err, nil)
		if m != want {
			t.Fatalf("%q; want %q", m, want)
		}
		has(t, n, l[i+1:])
	}
	refuses(t, n, -1, 0, 1)
	checkErr(t, n.Send(nth(5)), nil)
	has(t, n, []net.Message{nth(5)})
}

// P140: it goes, and is not told.
func TestDrop(t *testing.T) {
	for at, want := range []string{"bcde", "acde", "abde", "abce", "abcd"} {
		n := of(t, "abcde")
		checkErr(t, n.Drop(at), nil)
		reads(t, n, want)
		refuses(t, n, -1, 4, 5)
	}
	n := of(t, "a")
	checkErr(t, n.Drop(0), nil)
	has(t, n, nil)
	refuses(t, n, -1, 0, 1)
}

// P140: it is there a second time, right behind itself: whole, and each of both is one of its own.
func TestTwice(t *testing.T) {
	for at, want := range []string{"aabcde", "abbcde", "abccde", "abcdde", "abcdee"} {
		n := of(t, "abcde")
		checkErr(t, n.Twice(at), nil)
		reads(t, n, want)
		if l := n.List(); l[at] != l[at+1] {
			t.Errorf("%q, %q", l[at], l[at+1])
		}
		refuses(t, n, -1, 6, 7)
		for range 2 {
			m, err := n.Take(at)
			checkErr(t, err, nil)
			if s := "abcde"[at : at+1]; m != (net.Message{From: "a", To: "b" + s, Text: s}) {
				t.Errorf("%d: %q", at, m)
			}
		}
		reads(t, n, "abcde"[:at]+"abcde"[at+1:])
	}
	n := of(t, "ab")
	for range 3 {
		checkErr(t, n.Twice(0), nil)
	}
	checkErr(t, n.Twice(4), nil)
	reads(t, n, "aaaabb")
}

// P140: ErrNone of numbers that are none of the list's, however many are there.
func TestNone(t *testing.T) {
	s := ""
	for range 10 {
		refuses(t, of(t, s), math.MinInt, -1<<32, -len(s)-1, -len(s), -1, len(s), len(s)+1, 2*len(s), api.MaxMessages, 1<<32, math.MaxInt)
		s += "a"
		refuses(t, of(t, s), -len(s), -1, len(s))
	}
}

// P140: the first one to this one, by the whole name, letter by letter; not who sends it, nor its text.
func TestFor(t *testing.T) {
	n := &net.Net{}
	for i, m := range []net.Message{{"x", "b", "a"}, {"x", "ab", "B"}, {"c", "b", ""}, {"b", "a", "x"}, {"b", "a", "y"}, {"x", "A", ""}, {"x", "...", ""}} {
		checkErr(t, n.Send(m), nil)
		if at := n.For(m.To); at < 0 || at > i || n.List()[at].To != m.To {
			t.Fatalf("%q: %d", m.To, at)
		}
	}
	for _, c := range []struct {
		to   string
		want int
	}{{"b", 0}, {"ab", 1}, {"a", 3}, {"A", 5}, {"...", 6}, {"B", -1}, {"x", -1}, {"c", -1}, {"y", -1}, {"aba", -1}, {"", -1}, {".", -1}, {"..", -1}, {"*", -1}, {"a ", -1}, {"b\x00", -1}} {
		if at := n.For(c.to); at != c.want {
			t.Errorf("%q: %d; want %d", c.to, at, c.want)
		}
	}
	if m, err := n.Take(n.For("b")); err != nil || m.Text != "a" {
		t.Fatal(m, err)
	}
	for _, c := range []struct {
		to   string
		want int
	}{{"ab", 0}, {"b", 1}, {"a", 2}} {
		if at := n.For(c.to); at != c.want {
			t.Errorf("%q: %d; want %d", c.to, at, c.want)
		}
	}
	for _, bad := range noNames {
		if at := n.For(bad); at != -1 {
			t.Errorf("%.20q: %d", bad, at)
		}
	}
}

// P140: the last one of a full net is found too.
func TestForLast(t *testing.T) {
	n := of(t, strings.Repeat("x", api.MaxMessages-1))
	checkErr(t, n.Send(net.Message{From: "a", To: "last"}), nil)
	if at := n.For("last"); at != api.MaxMessages-1 {
		t.Error(at)
	}
	checkErr(t, n.Drop(0), nil)
	if at := n.For("last"); at != api.MaxMessages-2 {
		t.Error(at)
	}
}

// P4: a list is new memory each time: what is written into it, or behind it, is not seen; nor does it change with the net.
func TestListIsNew(t *testing.T) {
	n := of(t, "abcde")
	l, other := n.List(), n.List()
	for i := range l {
		l[i] = net.Message{From: "!", To: "!", Text: "!"}
	}
	l = append(l[:2], nth(1), nth(2), nth(3), nth(4))
	reads(t, n, "abcde")
	checkErr(t, n.Drop(0), nil)
	checkErr(t, n.Twice(0), nil)
	checkErr(t, n.Send(nth(0)), nil)
	if s := other[0].Text + other[4].Text; s != "ae" || len(l) != 6 {
		t.Error(s)
	}
	reads(t, n, "bbcdex0")
	grown := append(n.List(), nth(7))
	checkErr(t, n.Send(nth(8)), nil)
	if grown[6] != nth(7) {
		t.Error(grown[6])
	}
	reads(t, n, "bbcdex0x8")
}

// P2: nets of their own, worked on side by side, do not see each other.
func TestSideBySide(t *testing.T) {
	var group sync.WaitGroup
	for i := range 8 {
		group.Go(func() {
			n := &net.Net{}
			for k := range 1000 {
				if err := n.Send(nth(k + i)); err != nil {
					t.Errorf("%d: %v", k, err)
				}
				if err := n.Twice(0); err != nil {
					t.Errorf("%d: %v", k, err)
				}
				for range 2 {
					if m, err := n.Take(n.For(nth(k + i).To)); m != nth(k+i) || err != nil {
						t.Errorf("%d: %q, %v", k, m, err)
					}
				}
			}
		})
	}
	group.Wait()
}

// What README.md says of a net.
func TestReadme(t *testing.T) {
	n := &net.Net{}
	checkErr(t, n.Send(net.Message{From: "ann", To: "server", Text: "first"}), nil)
	checkErr(t, n.Send(net.Message{From: "bob", To: "server", Text: "second"}), nil)
	checkErr(t, n.Twice(0), nil)
	reads(t, n, "firstfirstsecond")
	checkErr(t, n.Drop(1), nil)
	m, err := n.Take(1)
	checkErr(t, err, nil)
	if m != (net.Message{From: "bob", To: "server", Text: "second"}) {
		t.Error(m)
	}
	if n.For("server") != 0 || n.For("bob") != -1 {
		t.Error(n.For("server"), n.For("bob"))
	}
	has(t, n, []net.Message{{From: "ann", To: "server", Text: "first"}})
}
