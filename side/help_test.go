package side_test

import (
	"errors"
	"math"
	"math/rand"
	"reflect"
	"strconv"
	"strings"
	"testing"

	"pigeonholes/api"
	"pigeonholes/plain"
	"pigeonholes/serve"
	"pigeonholes/side"
	"pigeonholes/wire"
)

// What the package exports, as it was given.
var (
	_ func([]string, int) ([][]serve.Op, error)             = side.Decode
	_ func([][]serve.Op, int, int) ([][]serve.Reply, error) = side.Plays
	_ func([]string, int, side.Taker) error                 = side.Each
	_ interface {
		Take(at int, l []serve.Op) bool
	} = side.Taker(nil)
)

type (
	op    = serve.Op
	reply = serve.Reply
)

// noWorkers are numbers that workers do not have.
var noWorkers = []int{0, -1, api.Workers + 1, 100, -api.Workers, math.MaxInt, math.MinInt}

// textOf ops.
func textOf(t *testing.T, l ...op) string {
	t.Helper()
	s, err := wire.Ops(l)
	if err != nil {
		t.Fatal(err)
	}
	return s
}

// tooMany ops, as a text: more than a compound has, though it can be read.
func tooMany(t *testing.T) string {
	t.Helper()
	s := textOf(t, make([]op, api.MaxOps)...)
	one := textOf(t, op{})
	s = s[:3] + string([]byte{api.MaxOps + 1}) + s[4:] + one[4:]
	if l, err := wire.ReadOps(s); len(l) != 0 || err != api.ErrBound {
		t.Fatalf("%+v, %v", l, err)
	}
	return s
}

// numbered compounds, each with ops that are its own, from none up to 16.
func numbered(count int) [][]op {
	l := make([][]op, count)
	for i := range l {
		for k := range i % (api.MaxOps + 1) {
			l[i] = append(l[i], op{Kind: "k" + strconv.Itoa(i), Name: "n" + strconv.Itoa(k), A: i, B: -k})
		}
	}
	return l
}

// textsOf compounds.
func textsOf(t *testing.T, l [][]op) []string {
	t.Helper()
	texts := make([]string, len(l))
	for i := range l {
		texts[i] = textOf(t, l[i]...)
	}
	return texts
}

// sameOps: are they alike, a nil list and an empty one being one thing?
func sameOps(a, b [][]op) bool {
	if len(a) != len(b) {
		return false
	}
	for i := range a {
		if !reflect.DeepEqual(append([]op{}, a[i]...), append([]op{}, b[i]...)) {
			return false
		}
	}
	return true
}

// sameReplies: likewise.
func sameReplies(a, b [][]reply) bool {
	if len(a) != len(b) {
		return false
	}
	for i := range a {
		if len(a[i]) != len(b[i]) {
			return false
		}
		for k := range a[i] {
			x, y := a[i][k], b[i][k]
			if len(x.L) == 0 && len(y.L) == 0 {
				x.L, y.L = nil, nil
			}
			if !reflect.DeepEqual(x, y) {
				return false
			}
		}
	}
	return true
}

// checkErr: the error itself, without a place.
func checkErr(t *testing.T, err, want error) {
	t.Helper()
	var fault *api.Fault
	if err != want || errors.As(err, &fault) {
		t.Fatalf("%v; want %v", err, want)
	}
	if _, at := plain.Code(err); at != -1 {
		t.Fatalf("%v at %d", err, at)
	}
}

// checkFault: the error with its place, and no other place within.
func checkFault(t *testing.T, err error, at int, want error) {
	t.Helper()
	fault, is := err.(*api.Fault)
	if !is || fault.At != at || fault.Err != want {
		t.Fatalf("%#v; want %v at %d", err, want, at)
	}
}

// sameErr: nil both, or bare both, or at one place.
func sameErr(t *testing.T, err, want error) {
	t.Helper()
	if fault, is := want.(*api.Fault); is {
		checkFault(t, err, fault.At, fault.Err)
		return
	}
	checkErr(t, err, want)
}

// decodes well.
func decodes(t *testing.T, l []string, workers int, want [][]op) {
	t.Helper()
	got, err := side.Decode(l, workers)
	if !sameOps(got, want) || err != nil {
		t.Fatalf("by %d: %+v, %v; want %+v", workers, got, err, want)
	}
}

// plays well.
func plays(t *testing.T, l [][]op, most, workers int, want [][]reply) {
	t.Helper()
	got, err := side.Plays(l, most, workers)
	if !sameReplies(got, want) || err != nil {
		t.Fatalf("%d by %d: %+v, %v; want %+v", most, workers, got, err, want)
	}
}

// taken by a Taker: a place, and what was there.
type taken struct {
	at int
	l  []op
}

// taker takes so many at most; it writes into what it is given, when it has kept it.
type taker struct {
	most  int
	taken []taken
}

func (x *taker) Take(at int, l []op) bool {
	x.taken = append(x.taken, taken{at, append([]op{}, l...)})
	for i := range l {
		l[i] = op{Kind: "written over"}
	}
	_ = append(l, op{Kind: "behind"}, op{Kind: "behind"})
	return len(x.taken) < x.most
}

// takes: these ones, in order.
func takes(t *testing.T, x *taker, want [][]op) {
	t.Helper()
	var got [][]op
	for i, y := range x.taken {
		if y.at != i {
			t.Fatalf("%d comes as number %d", y.at, i)
		}
		got = append(got, y.l)
	}
	if !sameOps(got, want) {
		t.Fatalf("%+v; want %+v", got, want)
	}
}

// By the words of P190 and P191 alone, one behind the other.

// decoded as Decode must.
func decoded(l []string, workers int) ([][]op, error) {
	if workers < 1 || workers > 16 {
		return nil, api.ErrShape
	}
	if len(l) > 100 {
		return nil, api.ErrBound
	}
	var all [][]op
	for i, s := range l {
		ops, err := wire.ReadOps(s)
		if err != nil {
			return nil, &api.Fault{At: i, Err: err}
		}
		all = append(all, ops)
	}
	return all, nil
}

// played as Plays must.
func played(l [][]op, most, workers int) ([][]reply, error) {
	if workers < 1 || workers > 16 {
		return nil, api.ErrShape
	}
	if len(l) > 100 || most < 1 || most > 300 {
		return nil, api.ErrBound
	}
	var all [][]reply
	for i, ops := range l {
		s, err := serve.New(most)
		if err != nil {
			return nil, err
		}
		r, err := s.Compound(ops)
		if err != nil {
			return nil, &api.Fault{At: i, Err: err}
		}
		all = append(all, r)
	}
	return all, nil
}

// Drawn ones.

// anyOf ops that do something on a new server, or nothing.
func anyOf(rnd *rand.Rand) op {
	l := []op{
		{Kind: "root"}, {Kind: "root"}, {Kind: "root"}, {Kind: "save"}, {Kind: "handle"}, {Kind: "list", B: 9}, {Kind: "attr", A: 31},
		{Kind: "make", Name: "a", A: api.File}, {Kind: "make", Name: "b", A: api.File}, {Kind: "make", Name: "d", A: api.Dir}, {Kind: "make", Name: "e", A: api.Dir}, {Kind: "up"},
		{Kind: "lookup", Name: "a"}, {Kind: "lookup", Name: "d"}, {Kind: "write", A: rnd.Intn(99), Text: strings.Repeat("x", rnd.Intn(99))}, {Kind: "read", B: 99},
		{Kind: "client", Name: "ann"}, {Kind: "client", Name: "bob"}, {Kind: "confirm", Client: 1, A: 1}, {Kind: "open", Client: 1, B: rnd.Intn(3), C: rnd.Intn(16)},
		{Kind: "lock", State: api.State{ID: 1, Seq: 1}, A: rnd.Intn(9), B: rnd.Intn(9), C: 1 + rnd.Intn(2)}, {Kind: "remove", Name: "a"}, {Kind: "what"},
	}
	return l[rnd.Intn(len(l))]
}

// anyCompound: most have 16 ops at most, and begin so that more of them go well.
func anyCompound(rnd *rand.Rand) []op {
	l := []op{{Kind: "client", Name: "ann"}, {Kind: "confirm", Client: 1, A: 1}, {Kind: "root"}}[rnd.Intn(4):]
	for range rnd.Intn(api.MaxOps - 2) {
		l = append(l, anyOf(rnd))
	}
	if rnd.Intn(200) == 0 {
		l = append(l, make([]op, api.MaxOps)...)
	}
	return l
}

// anyText: most can be read.
func anyText(t *testing.T, rnd *rand.Rand) string {
	t.Helper()
	var l []op
	for range rnd.Intn(api.MaxOps + 1) {
		l = append(l, anyOf(rnd))
	}
	s := textOf(t, l...)
	switch rnd.Intn(100) {
	case 0:
		return s[:rnd.Intn(len(s))]
	case 1:
		return s + "\x00"
	case 2:
		return tooMany(t)
	}
	return s
}
