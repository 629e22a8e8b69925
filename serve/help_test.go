package serve_test

import (
	"reflect"
	"testing"

	"pigeonholes/api"
	"pigeonholes/lock"
	"pigeonholes/plain"
	"pigeonholes/serve"
	"pigeonholes/share"
	"pigeonholes/tree"
)

// What the package exports, as it was given.
var (
	_ func(int) (*serve.Server, error)                       = serve.New
	_ func(*serve.Server, []serve.Op) ([]serve.Reply, error) = (*serve.Server).Compound
	_ func(*serve.Server, int) error                         = (*serve.Server).Tick
	_ func(*serve.Server) []share.Open                       = (*serve.Server).Opens
	_ func(*serve.Server) []lock.Lock                        = (*serve.Server).Locks
	_ func(*serve.Server) *tree.Tree                         = (*serve.Server).Tree

	_ = struct {
		Kind, Name, Text string
		A, B, C, Client  int
		State            api.State
	}(serve.Op{})
	_ = struct {
		Code  int
		Text  string
		H     api.Handle
		State api.State
		L     []api.Entry
		N     int
		End   bool
	}(serve.Reply{})
)

type (
	op    = serve.Op
	reply = serve.Reply
	state = api.State
)

// greatest number of a turn.
const greatest = 1<<32 - 1

// far is the end of what a range may have.
const far = 1 << 40

// begin a server.
func begin(t *testing.T, most int) *serve.Server {
	t.Helper()
	s, err := serve.New(most)
	if s == nil || err != nil {
		t.Fatalf("%d: %v, %v", most, s, err)
	}
	return s
}

// code of an error.
func code(err error) int {
	n, _ := plain.Code(err)
	return n
}

// do a compound: there are replies to all ops up to the first that has an error.
func do(t *testing.T, s *serve.Server, l ...op) []reply {
	t.Helper()
	r, err := s.Compound(l)
	if err != nil {
		t.Fatalf("%+v: %v", l, err)
	}
	for i, x := range r {
		if x.Code != 0 && i+1 != len(r) {
			t.Fatalf("%+v: %+v go on behind an error", l, r)
		}
	}
	if len(r) > len(l) || len(r) < len(l) && (len(r) == 0 || r[len(r)-1].Code == 0) {
		t.Fatalf("%+v: only %+v", l, r)
	}
	return r
}

// last reply to a compound that is done up to its last op.
func last(t *testing.T, s *serve.Server, l ...op) reply {
	t.Helper()
	r := do(t, s, l...)
	if len(r) != len(l) {
		t.Fatalf("%+v: %+v", l, r)
	}
	return r[len(r)-1]
}

// same: are they alike, a nil list and an empty one being one thing?
func same(a, b reply) bool {
	if len(a.L) == 0 && len(b.L) == 0 {
		a.L, b.L = nil, nil
	}
	return reflect.DeepEqual(a, b)
}

// answers: the last reply is this one, all of it.
func answers(t *testing.T, s *serve.Server, want reply, l ...op) {
	t.Helper()
	if r := last(t, s, l...); !same(r, want) {
		t.Fatalf("%+v: %+v; want %+v", l, r, want)
	}
}

// well: all ops go so, and the last one answers nothing.
func well(t *testing.T, s *serve.Server, l ...op) {
	t.Helper()
	answers(t, s, reply{}, l...)
}

// fails: the last op has an error, and answers nothing else; the compound changed nothing, if it does no more ahead of it than to walk.
func fails(t *testing.T, s *serve.Server, want error, l ...op) {
	t.Helper()
	before := look(s)
	answers(t, s, reply{Code: code(want)}, l...)
	for _, x := range l[:len(l)-1] {
		switch x.Kind {
		case "root", "lookup", "save", "restore", "up":
		default:
			return
		}
	}
	if after := look(s); !reflect.DeepEqual(before, after) {
		t.Fatalf("%+v: %+v becomes %+v", l, before, after)
	}
}

// view is all that is told of a server but by compounds.
type view struct {
	opens []share.Open
	locks []lock.Lock
	tree  string
	nodes int
}

func look(s *serve.Server) view {
	return view{opens: append([]share.Open{}, s.Opens()...), locks: append([]lock.Lock{}, s.Locks()...), tree: s.Tree().Snapshot(), nodes: s.Tree().Nodes()}
}

// Ops that are short to write.
var (
	root    = op{Kind: "root"}
	save    = op{Kind: "save"}
	restore = op{Kind: "restore"}
	up      = op{Kind: "up"}
	handle  = op{Kind: "handle"}
)

func lookup(name string) op { return op{Kind: "lookup", Name: name} }

func file(name string) op { return op{Kind: "make", Name: name, A: api.File} }

func dir(name string) op { return op{Kind: "make", Name: name, A: api.Dir} }

func remove(name string) op { return op{Kind: "remove", Name: name} }

func renew(client int) op { return op{Kind: "renew", Client: client} }

func read(at, n int, st state) op { return op{Kind: "read", A: at, B: n, State: st} }

func write(at int, text string, st state) op { return op{Kind: "write", A: at, Text: text, State: st} }

func resize(n int, st state) op { return op{Kind: "resize", A: n, State: st} }

func open(client, owner, seq, c int) op {
	return op{Kind: "open", Client: client, B: owner, A: seq, C: c}
}

func shut(client, owner, seq int, st state) op {
	return op{Kind: "close", Client: client, B: owner, A: seq, State: st}
}

func down(client, owner, seq, c int, st state) op {
	return op{Kind: "down", Client: client, B: owner, A: seq, C: c, State: st}
}

func locks(kind string, st state, at, size, c int) op {
	return op{Kind: kind, State: st, A: at, B: size, C: c}
}

// at a path: from the root on, then more.
func at(path string, more ...op) []op {
	l := []op{root}
	for _, name := range split(path) {
		l = append(l, lookup(name))
	}
	return append(l, more...)
}

// split a path that has no slash ahead.
func split(path string) []string {
	var l []string
	from := 0
	for i := range len(path) + 1 {
		if i == len(path) || path[i] == '/' {
			if i > from {
				l = append(l, path[from:i])
			}
			from = i + 1
		}
	}
	return l
}

// join a client: its number, confirmed.
func join(t *testing.T, s *serve.Server, name string) int {
	t.Helper()
	r := last(t, s, op{Kind: "client", Name: name})
	if r.Code != 0 {
		t.Fatalf("%s: %+v", name, r)
	}
	well(t, s, op{Kind: "confirm", Client: r.N, A: r.State.ID})
	return r.N
}

// opens a file by its path: the state of the open.
func opens(t *testing.T, s *serve.Server, path string, client, owner, seq, c int) state {
	t.Helper()
	r := last(t, s, at(path, open(client, owner, seq, c))...)
	if r.Code != 0 || !same(r, reply{State: r.State}) {
		t.Fatalf("%s by %d, %d: %+v", path, client, owner, r)
	}
	return r.State
}

// handleOf a path.
func handleOf(t *testing.T, s *serve.Server, path string) api.Handle {
	t.Helper()
	return last(t, s, at(path, handle)...).H
}

// checkOpens: these, and no others.
func checkOpens(t *testing.T, s *serve.Server, want ...share.Open) {
	t.Helper()
	if l := s.Opens(); !reflect.DeepEqual(append([]share.Open{}, l...), append([]share.Open{}, want...)) {
		t.Fatalf("opens %v; want %v", l, want)
	}
}

// checkLocks: these, and no others.
func checkLocks(t *testing.T, s *serve.Server, want ...lock.Lock) {
	t.Helper()
	if l := s.Locks(); !reflect.DeepEqual(append([]lock.Lock{}, l...), append([]lock.Lock{}, want...)) {
		t.Fatalf("locks %v; want %v", l, want)
	}
}

// tick must go well.
func tick(t *testing.T, s *serve.Server, n int) {
	t.Helper()
	if err := s.Tick(n); err != nil {
		t.Fatal(n, err)
	}
}

// isThere: is a client confirmed? (Its lease begins anew by that.)
func isThere(t *testing.T, s *serve.Server, client int) bool {
	t.Helper()
	r := last(t, s, renew(client))
	if r.Code != 0 && r.Code != code(api.ErrNone) {
		t.Fatal(client, r)
	}
	return r.Code == 0
}
