package wire_test

import (
	"encoding/binary"
	"errors"
	"math"
	"math/rand"
	"reflect"
	"strings"
	"testing"

	"pigeonholes/api"
	"pigeonholes/plain"
	"pigeonholes/serve"
	"pigeonholes/wire"
)

// What the package exports, as it was given.
var (
	_ func([]serve.Op) (string, error)    = wire.Ops
	_ func([]serve.Reply) (string, error) = wire.Replies
	_ func(string) ([]serve.Op, error)    = wire.ReadOps
	_ func(string) ([]serve.Reply, error) = wire.ReadReplies
)

type (
	op    = serve.Op
	reply = serve.Reply
	entry = api.Entry
)

// empty is how many bytes an op, or a reply, has that is zero.
const empty = 84

// edges of numbers that can be written.
var edges = []int{0, 1, -1, 2, -2, 255, -256, 1<<31 - 1, 1 << 31, -1 << 31, 1<<32 - 1, 1 << 32, -1 << 32, 1 << 62, -1 << 62, math.MaxInt - 1, math.MaxInt, -math.MaxInt}

// By the words of P10 and P120 alone: what is written.

func textOfInt(n int) string { return string(binary.BigEndian.AppendUint32(nil, uint32(n))) }

func textOfBytes(s string) string {
	return textOfInt(len(s)) + s + strings.Repeat("\x00", (4-len(s)%4)%4)
}

func textOfBool(b bool) string {
	if b {
		return "\x00\x00\x00\x01"
	}
	return "\x00\x00\x00\x00"
}

func textOfNumber(n int) string {
	if n < 0 {
		return "\x00\x00\x00\x01" + string(binary.BigEndian.AppendUint64(nil, uint64(-n)))
	}
	return "\x00\x00\x00\x00" + string(binary.BigEndian.AppendUint64(nil, uint64(n)))
}

func textOfNumbers(l ...int) string {
	s := ""
	for _, n := range l {
		s += textOfNumber(n)
	}
	return s
}

func textOfOp(o op) string {
	return textOfBytes(o.Kind) + textOfBytes(o.Name) + textOfBytes(o.Text) + textOfNumbers(o.A, o.B, o.C, o.Client, o.State.ID, o.State.Seq)
}

func textOfEntry(e entry) string { return textOfBytes(e.Name) + textOfNumbers(e.H.Node, e.H.Gen) }

func textOfReply(r reply) string {
	s := textOfNumber(r.Code) + textOfBytes(r.Text) + textOfNumbers(r.H.Node, r.H.Gen, r.State.ID, r.State.Seq) + textOfInt(len(r.L))
	for _, e := range r.L {
		s += textOfEntry(e)
	}
	return s + textOfNumber(r.N) + textOfBool(r.End)
}

func textOfOps(l ...op) string {
	s := textOfInt(len(l))
	for _, o := range l {
		s += textOfOp(o)
	}
	return s
}

func textOfReplies(l ...reply) string {
	s := textOfInt(len(l))
	for _, r := range l {
		s += textOfReply(r)
	}
	return s
}

// looker goes through a text by the words of P11 and P120 alone.
type looker struct {
	left string
	bad  bool
}

func (l *looker) take(n int) string {
	if l.bad || n > len(l.left) {
		l.bad = true
		return strings.Repeat("\x00", min(n, 8))
	}
	s := l.left[:n]
	l.left = l.left[n:]
	return s
}

func (l *looker) int() int { return int(binary.BigEndian.Uint32([]byte(l.take(4)))) }

func (l *looker) bool() bool {
	n := l.int()
	l.bad = l.bad || n > 1
	return n == 1
}

func (l *looker) number() {
	below := l.bool()
	n := binary.BigEndian.Uint64([]byte(l.take(8)))
	l.bad = l.bad || n > math.MaxInt64 || below && n == 0
}

func (l *looker) numbers(many int) {
	for range many {
		l.number()
	}
}

func (l *looker) bytes() {
	n := l.int()
	l.bad = l.bad || n > api.MaxText
	l.take(n)
	for ; n%4 != 0; n++ {
		l.bad = l.take(1) != "\x00" || l.bad
	}
}

func (l *looker) op() {
	for range 3 {
		l.bytes()
	}
	l.numbers(6)
}

func (l *looker) reply() {
	l.number()
	l.bytes()
	l.numbers(4)
	for n := l.int(); n > 0 && !l.bad; n-- {
		l.bytes()
		l.numbers(2)
	}
	l.number()
	l.bool()
}

// looked: how many a text has, or that it is none.
func looked(s string, each func(l *looker)) (many int, ok bool) {
	l := &looker{left: s}
	many = l.int()
	for n := many; n > 0 && !l.bad; n-- {
		each(l)
	}
	return many, !l.bad && l.left == ""
}

// same: are they alike, a nil list and an empty one being one thing?
func same(a, b reply) bool {
	if len(a.L) == 0 && len(b.L) == 0 {
		a.L, b.L = nil, nil
	}
	return reflect.DeepEqual(a, b)
}

func sameOps(a, b []op) bool {
	if len(a) != len(b) {
		return false
	}
	for i := range a {
		if a[i] != b[i] {
			return false
		}
	}
	return true
}

func sameReplies(a, b []reply) bool {
	if len(a) != len(b) {
		return false
	}
	for i := range a {
		if !same(a[i], b[i]) {
			return false
		}
	}
	return true
}

// checkOps are written as the words say, and read again.
func checkOps(t *testing.T, l ...op) {
	t.Helper()
	want := textOfOps(l...)
	s, err := wire.Ops(l)
	if s != want || err != nil {
		t.Fatalf("%+v: %q, %v; want %q", l, s, err, want)
	}
	back, err := wire.ReadOps(s)
	if !sameOps(back, l) || err != nil {
		t.Fatalf("%+v: back: %+v, %v", l, back, err)
	}
}

// checkReplies are written as the words say, and read again.
func checkReplies(t *testing.T, l ...reply) {
	t.Helper()
	want := textOfReplies(l...)
	s, err := wire.Replies(l)
	if s != want || err != nil {
		t.Fatalf("%+v: %q, %v; want %q", l, s, err, want)
	}
	back, err := wire.ReadReplies(s)
	if !sameReplies(back, l) || err != nil {
		t.Fatalf("%+v: back: %+v, %v", l, back, err)
	}
}

// checkBare: the error itself, without a place.
func checkBare(t *testing.T, err, want error) {
	t.Helper()
	var fault *api.Fault
	if err != want || errors.As(err, &fault) {
		t.Errorf("%v; want %v", err, want)
	}
	if _, at := plain.Code(err); at != -1 {
		t.Errorf("%v at %d", err, at)
	}
}

// opsFail to be written, with nothing beside the error.
func opsFail(t *testing.T, want error, l ...op) {
	t.Helper()
	s, err := wire.Ops(l)
	if s != "" {
		t.Errorf("%q beside an error", s)
	}
	checkBare(t, err, want)
}

// repliesFail to be written, with nothing beside the error.
func repliesFail(t *testing.T, want error, l ...reply) {
	t.Helper()
	s, err := wire.Replies(l)
	if s != "" {
		t.Errorf("%q beside an error", s)
	}
	checkBare(t, err, want)
}

// noOps can be read of s.
func noOps(t *testing.T, want error, s string) {
	t.Helper()
	l, err := wire.ReadOps(s)
	if len(l) != 0 {
		t.Errorf("%q: %+v beside an error", s, l)
	}
	checkBare(t, err, want)
}

// noReplies can be read of s.
func noReplies(t *testing.T, s string) {
	t.Helper()
	l, err := wire.ReadReplies(s)
	if len(l) != 0 {
		t.Errorf("%q: %+v beside an error", s, l)
	}
	checkBare(t, err, api.ErrText)
}

// opNumbers of an op, in the order of the wire.
func opNumbers(o *op) []*int {
	return []*int{&o.A, &o.B, &o.C, &o.Client, &o.State.ID, &o.State.Seq}
}

// replyNumbers of a reply that has an entry, in the order of the wire.
func replyNumbers(r *reply) []*int {
	return []*int{&r.Code, &r.H.Node, &r.H.Gen, &r.State.ID, &r.State.Seq, &r.L[0].H.Node, &r.L[0].H.Gen, &r.N}
}

// wholeOp has something of its own in each field, with unlike bytes.
func wholeOp() op {
	return op{
		Kind: "kind", Name: "n", Text: "texts",
		A: 0x0102030405060708, B: -0x1112131415161718, C: 0x2122232425262728, Client: -0x3132333435363738,
		State: api.State{ID: 0x4142434445464748, Seq: -0x5152535455565758},
	}
}

// wholeReply has something of its own in each field, with unlike bytes.
func wholeReply() reply {
	return reply{
		Code: -0x0102030405060708, Text: "texts",
		H:     api.Handle{Node: 0x1112131415161718, Gen: -0x2122232425262728},
		State: api.State{ID: 0x3132333435363738, Seq: -0x4142434445464748},
		L:     []entry{{Name: "en", H: api.Handle{Node: -0x5152535455565758, Gen: 0x6162636465666768}}},
		N:     -0x7172737475767778, End: true,
	}
}

// Drawn ones; small numbers and the edges come often.

func anyNumber(rnd *rand.Rand) int {
	switch rnd.Intn(4) {
	case 0:
		return 0
	case 1:
		return edges[rnd.Intn(len(edges))]
	}
	n := rnd.Intn(math.MaxInt) >> rnd.Intn(63)
	if rnd.Intn(3) == 0 {
		return -n
	}
	return n
}

func anyBytes(rnd *rand.Rand) string {
	b := make([]byte, rnd.Intn(1<<rnd.Intn(10)))
	rnd.Read(b)
	return string(b)
}

func anyHandle(rnd *rand.Rand) api.Handle {
	return api.Handle{Node: anyNumber(rnd), Gen: anyNumber(rnd)}
}

func anyState(rnd *rand.Rand) api.State { return api.State{ID: anyNumber(rnd), Seq: anyNumber(rnd)} }

func anyOp(rnd *rand.Rand) op {
	return op{
		Kind: anyBytes(rnd), Name: anyBytes(rnd), Text: anyBytes(rnd),
		A: anyNumber(rnd), B: anyNumber(rnd), C: anyNumber(rnd), Client: anyNumber(rnd), State: anyState(rnd),
	}
}

func anyReply(rnd *rand.Rand) reply {
	r := reply{Code: anyNumber(rnd), Text: anyBytes(rnd), H: anyHandle(rnd), State: anyState(rnd), N: anyNumber(rnd), End: rnd.Intn(2) == 0}
	for range rnd.Intn(1 << rnd.Intn(5)) {
		r.L = append(r.L, entry{Name: anyBytes(rnd), H: anyHandle(rnd)})
	}
	return r
}
