package call_test

import (
	"encoding/binary"
	"errors"
	"reflect"
	"slices"
	"strings"
	"testing"

	"pigeonholes/api"
	"pigeonholes/call"
	"pigeonholes/net"
	"pigeonholes/plain"
	"pigeonholes/serve"
	"pigeonholes/wire"
)

// What the package exports, as it was given.
var (
	_ func(call.Request) (string, error)                        = call.Encode
	_ func(string) (call.Request, error)                        = call.Decode
	_ func(string, string) (*call.Caller, error)                = call.NewCaller
	_ func(*call.Caller, *net.Net, string) (int, error)         = (*call.Caller).Call
	_ func(*call.Caller, *net.Net) error                        = (*call.Caller).Again
	_ func(*call.Caller, net.Message) (string, bool)            = (*call.Caller).Hear
	_ func(string, *serve.Server, int) (*call.Listener, error)  = call.NewListener
	_ func(*call.Listener, *net.Net, net.Message) (bool, error) = (*call.Listener).Hear
	_                                                           = struct {
		ID   int
		Text string
	}(call.Request{})
)

type (
	op      = serve.Op
	reply   = serve.Reply
	message = net.Message
	request = call.Request
)

// mostText is how many bytes a request's text has at most: its ID and how many they are stand ahead.
const mostText = api.MaxText - 12

// Texts that are no names.
var noNames = []string{"", ".", "..", "/", "a/b", "a b", " a", "a\n", "a\x00", "\xff", "ä", "a*", strings.Repeat("x", api.MaxName+1), strings.Repeat("x", api.MaxText+1)}

// Texts that are names, up to the longest.
var someNames = []string{"a", "Z", "0", "...", ".a", "-", "_", "a.b-c_d", "server", strings.Repeat("x", api.MaxName)}

// checkErr: the error itself, without a place.
func checkErr(t *testing.T, err, want error) {
	t.Helper()
	var fault *api.Fault
	if err != want || errors.As(err, &fault) {
		t.Fatalf("%v; want %v", err, want)
	}
}

// code of an error.
func code(err error) int {
	n, _ := plain.Code(err)
	return n
}

// textOf a request, by the words of P10 and P150 alone.
func textOf(r request) string {
	b := binary.BigEndian.AppendUint64(nil, uint64(r.ID))
	b = binary.BigEndian.AppendUint32(b, uint32(len(r.Text)))
	b = append(b, r.Text...)
	for len(b)%4 != 0 {
		b = append(b, 0)
	}
	return string(b)
}

// ops as a text.
func ops(t *testing.T, l ...op) string {
	t.Helper()
	s, err := wire.Ops(l)
	checkErr(t, err, nil)
	return s
}

// replies as a text.
func replies(t *testing.T, l ...reply) string {
	t.Helper()
	s, err := wire.Replies(l)
	checkErr(t, err, nil)
	return s
}

// caller by a name, of the server.
func caller(t *testing.T, name string) *call.Caller {
	t.Helper()
	c, err := call.NewCaller(name, "server")
	checkErr(t, err, nil)
	return c
}

// server for so many nodes.
func server(t *testing.T, most int) *serve.Server {
	t.Helper()
	s, err := serve.New(most)
	checkErr(t, err, nil)
	return s
}

// listener of a server, by the name server.
func listener(t *testing.T, s *serve.Server, most int) *call.Listener {
	t.Helper()
	l, err := call.NewListener("server", s, most)
	checkErr(t, err, nil)
	return l
}

// full net.
func full(t *testing.T) *net.Net {
	t.Helper()
	n := &net.Net{}
	for range api.MaxMessages {
		checkErr(t, n.Send(message{From: "x", To: "y"}), nil)
	}
	return n
}

// has: these messages, in this order.
func has(t *testing.T, n *net.Net, want ...message) {
	t.Helper()
	if l := n.List(); !slices.Equal(l, want) {
		t.Fatalf("%.300q; want %.300q", l, want)
	}
}

// asked: a message with a request from this one to the server.
func asked(from string, id int, text string) message {
	return message{From: from, To: "server", Text: textOf(request{id, text})}
}

// told: a message with a reply from the server to this one.
func told(to string, id int, text string) message {
	return message{From: "server", To: to, Text: textOf(request{id, text})}
}

// hears: it is done, or not, and these are on their way then, which were not.
func hears(t *testing.T, l *call.Listener, m message, did bool, want ...message) {
	t.Helper()
	n := &net.Net{}
	got, err := l.Hear(n, m)
	checkErr(t, err, nil)
	if got != did {
		t.Fatalf("%.100q: %t", m, got)
	}
	has(t, n, want...)
}

// refuses: nothing is done, nothing is sent, and no error is told.
func refuses(t *testing.T, l *call.Listener, s *serve.Server, m message) {
	t.Helper()
	before := look(s)
	hears(t, l, m, false)
	if after := look(s); after != before {
		t.Fatalf("%.100q: %+v becomes %+v", m, before, after)
	}
}

// view of a server: what it has.
type view struct {
	tree  string
	opens int
}

func look(s *serve.Server) view { return view{s.Tree().Snapshot(), len(s.Opens())} }

// count is a compound whose reply tells how often it, or another like it, was done: each register has a number of its own.
func count(t *testing.T) string {
	t.Helper()
	return ops(t, op{Kind: "client", Name: "counter"})
}

// reads: a reply's text is these replies.
func reads(t *testing.T, text string, want ...reply) {
	t.Helper()
	l, err := wire.ReadReplies(text)
	checkErr(t, err, nil)
	if !slices.EqualFunc(l, want, same) {
		t.Fatalf("%+v; want %+v", l, want)
	}
}

// same: are they alike, a nil list and an empty one being one thing?
func same(a, b reply) bool {
	if len(a.L) == 0 && len(b.L) == 0 {
		a.L, b.L = nil, nil
	}
	return reflect.DeepEqual(a, b)
}
