package serve_test

import (
	"math"
	"strings"
	"testing"

	"pigeonholes/api"
	"pigeonholes/lock"
)

// P113: lock and unlock: runs of an open, told with its file; CUR means nothing, and no client is asked for.
func TestLock(t *testing.T) {
	s := office(t, 2)
	a, b := opens(t, s, "a", 1, 1, 0, 3), opens(t, s, "b", 2, 1, 0, 3)
	run := func(at, size int, write bool) lock.Lock {
		return lock.Lock{H: nodeA, Owner: a.ID, R: api.Range{At: at, Size: size}, Write: write}
	}
	well(t, s, root, lookup("b"), locks("lock", a, 0, 10, api.Read))
	checkLocks(t, s, run(0, 10, false))
	well(t, s, locks("lock", a, 3, 3, api.Write))
	checkLocks(t, s, run(0, 3, false), run(3, 3, true), run(6, 4, false))
	well(t, s, locks("unlock", a, 4, 1, 0))
	checkLocks(t, s, run(0, 3, false), run(3, 1, true), run(5, 1, true), run(6, 4, false))
	well(t, s, root, locks("unlock", a, 1, 0, -99))
	checkLocks(t, s, run(0, 1, false))
	well(t, s, locks("unlock", b, 0, 0, 0))
	checkLocks(t, s, run(0, 1, false))
	well(t, s, locks("lock", b, 0, 0, api.Write))
	checkLocks(t, s, run(0, 1, false), lock.Lock{H: nodeB, Owner: b.ID, Write: true})
	well(t, s, locks("lock", a, far, far, api.Write))
	x := locks("lock", a, 2, 1, api.Read)
	x.Client, x.Name, x.Text = 2, "..", "again"
	well(t, s, x)
	checkLocks(t, s, run(0, 1, false), run(2, 1, false), run(far, far, true), lock.Lock{H: nodeB, Owner: b.ID, Write: true})
}

// P113: ErrHeld, of lock and test: N the holder's open's ID, Text its whole range and its kind.
func TestLockIsHeld(t *testing.T) {
	s := office(t, 2)
	a, b := opens(t, s, "a", 1, 1, 0, 3), opens(t, s, "a", 2, 1, 0, 3)
	well(t, s, locks("lock", a, 2, 3, api.Write))
	well(t, s, locks("lock", a, 10, 5, api.Read))
	well(t, s, locks("lock", a, 100, 0, api.Read))
	held := s.Locks()
	for _, kind := range []string{"lock", "test"} {
		for _, c := range []struct {
			at, size, c int
			want        string
		}{
			{0, 0, 1, "2 3 write"}, {4, 1, 1, "2 3 write"}, {4, 1, 2, "2 3 write"}, {12, 1, 2, "10 5 read"}, {5, 9999, 2, "10 5 read"}, {far, far, 2, "100 0 read"},
		} {
			answers(t, s, reply{Code: 11, N: a.ID, Text: c.want}, locks(kind, b, c.at, c.size, c.c))
		}
		checkLocks(t, s, held...)
	}
	well(t, s, locks("test", b, 0, 2, api.Write))
	well(t, s, locks("test", b, 5, 5, api.Write))
	well(t, s, locks("test", b, 5, 0, api.Read))
	well(t, s, locks("test", a, 0, 0, api.Write))
	checkLocks(t, s, held...)
	well(t, s, locks("lock", b, 11, 2, api.Read))
	answers(t, s, reply{Code: 11, N: b.ID, Text: "11 2 read"}, locks("lock", a, 11, 1, api.Write))
	if len(s.Locks()) != len(held)+1 {
		t.Error(s.Locks())
	}
}

// P113: locks are those of an open: another owner of the same client is held off too, another file is not.
func TestLocksAreAnOpens(t *testing.T) {
	s := office(t, 1)
	a, b, c := opens(t, s, "a", 1, 1, 0, 3), opens(t, s, "a", 1, 2, 0, 3), opens(t, s, "b", 1, 2, 1, 3)
	well(t, s, locks("lock", a, 0, 0, api.Write))
	answers(t, s, reply{Code: 11, N: a.ID, Text: "0 0 write"}, locks("lock", b, 0, 1, api.Read))
	well(t, s, locks("lock", c, 0, 1, api.Write))
	if again := opens(t, s, "a", 1, 1, 1, 3); again.ID != a.ID {
		t.Error(again)
	}
	well(t, s, locks("lock", state{ID: a.ID, Seq: 2}, 5, 1, api.Read))
}

// P113: State's errors, ahead of C's, which is ahead of the access's, which is ahead of the table's; all else is zero.
func TestLockErrors(t *testing.T) {
	s := office(t, 2)
	opens(t, s, "a", 1, 1, 0, api.Read)
	st := opens(t, s, "a", 1, 1, 1, api.Read)
	w := opens(t, s, "a", 2, 1, 0, api.Write)
	well(t, s, locks("lock", w, 0, 0, api.Write))
	for _, kind := range []string{"lock", "test", "unlock"} {
		for _, id := range []int{math.MinInt, -1, 0, 3, math.MaxInt} {
			fails(t, s, api.ErrNone, locks(kind, state{ID: id, Seq: 1}, -1, -1, 9))
		}
		for _, seq := range []int{math.MinInt, -1, 0, 1} {
			fails(t, s, api.ErrOld, locks(kind, state{ID: st.ID, Seq: seq}, -1, -1, 9))
		}
		for _, seq := range []int{3, math.MaxInt} {
			fails(t, s, api.ErrShape, locks(kind, state{ID: st.ID, Seq: seq}, -1, -1, 9))
		}
		for _, r := range [][2]int{{-1, 0}, {0, -1}, {far + 1, 0}, {0, far + 1}, {math.MinInt, math.MaxInt}} {
			fails(t, s, api.ErrBound, locks(kind, st, r[0], r[1], api.Read))
		}
	}
	for _, kind := range []string{"lock", "test"} {
		for _, c := range []int{math.MinInt, -1, 0, 3, 4, 5, math.MaxInt} {
			fails(t, s, api.ErrBound, locks(kind, st, 0, 1, c))
		}
		fails(t, s, api.ErrNone, locks(kind, st, -1, -1, api.Write))
		fails(t, s, api.ErrNone, locks(kind, w, -1, -1, api.Read))
		fails(t, s, api.ErrNone, locks(kind, st, 0, 1, api.Write))
		answers(t, s, reply{Code: 11, N: w.ID, Text: "0 0 write"}, locks(kind, st, 0, 1, api.Read))
	}
	well(t, s, locks("unlock", st, 0, 0, 77))
	well(t, s, shut(1, 1, 2, st))
	fails(t, s, api.ErrNone, locks("unlock", st, 0, 1, 0))
}

// P113: an open that went down to less, has its locks, but cannot lock for what it has no more.
func TestLockBehindDown(t *testing.T) {
	s := office(t, 1)
	st := opens(t, s, "a", 1, 1, 0, 3)
	well(t, s, locks("lock", st, 0, 9, api.Write))
	answers(t, s, reply{State: state{ID: 1, Seq: 2}}, down(1, 1, 1, api.Read, st))
	st.Seq = 2
	fails(t, s, api.ErrNone, locks("lock", st, 0, 1, api.Write))
	well(t, s, locks("unlock", st, 0, 4, 0))
	well(t, s, locks("lock", st, 0, 2, api.Read))
	checkLocks(t, s, lock.Lock{H: nodeA, Owner: 1, R: api.Range{Size: 2}}, lock.Lock{H: nodeA, Owner: 1, R: api.Range{At: 4, Size: 5}, Write: true})
}

// P113: ErrFull: MaxLocks, of lock and unlock, not of test.
func TestMaxLocks(t *testing.T) {
	s := office(t, 1)
	st, b := opens(t, s, "a", 1, 1, 0, 3), opens(t, s, "b", 1, 1, 1, 3)
	for i := range api.MaxLocks {
		well(t, s, locks("lock", st, 10*i, 3, api.Read))
	}
	fails(t, s, api.ErrFull, locks("lock", st, 5, 1, api.Read))
	fails(t, s, api.ErrFull, locks("lock", b, 5, 1, api.Read))
	fails(t, s, api.ErrFull, locks("lock", st, 1, 1, api.Write))
	fails(t, s, api.ErrFull, locks("unlock", st, 1, 1, 0))
	well(t, s, locks("test", st, 5, 1, api.Read))
	well(t, s, locks("test", b, 5, 1, api.Write))
	well(t, s, locks("unlock", st, 0, 3, 0))
	well(t, s, locks("lock", b, 5, 1, api.Read))
}

// P113: read, write and resize of CUR, by nobody's open.
func TestBytes(t *testing.T) {
	s := office(t, 0)
	well(t, s, at("a", write(2, "abc", state{}))...)
	for _, c := range []struct {
		at, n int
		want  reply
	}{
		{0, 9, reply{Text: "\x00\x00abc", End: true}}, {0, 5, reply{Text: "\x00\x00abc", End: true}}, {0, 4, reply{Text: "\x00\x00ab"}}, {3, 1, reply{Text: "b"}},
		{4, 1, reply{Text: "c", End: true}}, {5, 1, reply{End: true}}, {9, 0, reply{End: true}}, {0, 0, reply{}}, {math.MaxInt, math.MaxInt, reply{End: true}},
	} {
		answers(t, s, c.want, at("a", read(c.at, c.n, state{}))...)
		answers(t, s, c.want, at("a", read(c.at, c.n, state{Seq: 7}))...)
	}
	well(t, s, at("a", resize(3, state{}))...)
	answers(t, s, reply{Text: "a", End: true}, at("a", read(2, 9, state{}))...)
	well(t, s, at("a", resize(5, state{}))...)
	answers(t, s, reply{Text: "a\x00\x00", End: true}, at("a", read(2, 9, state{}))...)
	well(t, s, at("a", write(api.MaxFile-1, "z", state{}))...)
	answers(t, s, reply{H: nodeA}, at("a", write(0, "", state{}), read(0, 1, state{}), resize(0, state{}), handle)...)
}

// P113: ErrStale and ErrFile ahead of State's errors, data's behind all.
func TestBytesErrors(t *testing.T) {
	s := office(t, 1)
	st := opens(t, s, "a", 1, 1, 0, 3)
	for _, st := range []state{{}, st, {ID: 99}, {ID: -1, Seq: -1}} {
		for _, x := range []op{read(-1, -1, st), write(-1, "x", st), resize(-1, st)} {
			fails(t, s, api.ErrFile, root, x)
			fails(t, s, api.ErrFile, at("d", x)...)
			answers(t, s, reply{Code: 10}, root, file("x"), save, root, remove("x"), restore, x)
		}
	}
	for _, st := range []state{{}, st} {
		for _, x := range []op{
			read(-1, 1, st), read(0, -1, st), write(-1, "", st), write(math.MinInt, "x", st), write(api.MaxFile, "x", st), write(0, strings.Repeat("x", api.MaxFile+1), st),
			write(math.MaxInt, "xx", st), resize(-1, st), resize(api.MaxFile+1, st), resize(math.MaxInt, st),
		} {
			fails(t, s, api.ErrBound, at("a", x)...)
		}
	}
}

// P113: without a state what opens deny cannot be done: share.Anyone's error, ahead of data's.
func TestBytesByAnyone(t *testing.T) {
	for deny := range 4 {
		s := office(t, 1)
		st := opens(t, s, "a", 1, 1, 0, 3+4*deny)
		for _, c := range []struct {
			x    op
			need int
		}{{read(-1, 1, state{}), api.Read}, {write(-1, "x", state{}), api.Write}, {resize(-1, state{}), api.Write}} {
			want := api.ErrBound
			if deny&c.need != 0 {
				want = api.ErrHeld
			}
			fails(t, s, want, at("a", c.x)...)
			fails(t, s, api.ErrBound, at("b", c.x)...)
			c.x.A, c.x.State = 0, st
			if r := last(t, s, at("a", c.x)...); r.Code != 0 {
				t.Error(deny, c.x, r)
			}
		}
		well(t, s, shut(1, 1, 1, st))
		well(t, s, at("a", write(0, "x", state{}))...)
	}
}

// P113: with a state: its errors, as of lock; another file's is ErrShape; an open that has not that access ErrNone; then data's.
func TestBytesByState(t *testing.T) {
	s := office(t, 2)
	opens(t, s, "a", 1, 1, 0, api.Read)
	r := opens(t, s, "a", 1, 1, 1, api.Read)
	w := opens(t, s, "a", 2, 1, 0, api.Write)
	b := opens(t, s, "b", 2, 1, 1, api.Read+4*3)
	for _, x := range []op{read(-1, 1, state{}), write(-1, "x", state{}), resize(-1, state{})} {
		with := func(st state) []op {
			x.State = st
			return at("a", x)
		}
		for _, id := range []int{math.MinInt, -1, 4, math.MaxInt} {
			fails(t, s, api.ErrNone, with(state{ID: id})...)
		}
		fails(t, s, api.ErrOld, with(state{ID: r.ID, Seq: 1})...)
		fails(t, s, api.ErrShape, with(state{ID: r.ID, Seq: 3})...)
		fails(t, s, api.ErrOld, with(state{ID: b.ID, Seq: 0})...)
		fails(t, s, api.ErrShape, with(b)...)
		mine, others := r, w
		if x.Kind != "read" {
			mine, others = w, r
		}
		fails(t, s, api.ErrNone, with(others)...)
		fails(t, s, api.ErrBound, with(mine)...)
	}
	well(t, s, at("a", write(0, "abcdef", w), resize(3, w))...)
	answers(t, s, reply{Text: "bc", End: true}, at("a", read(1, 9, r))...)
	fails(t, s, api.ErrHeld, at("b", read(0, 9, state{}))...)
	answers(t, s, reply{End: true}, at("b", read(0, 9, b))...)
	fails(t, s, api.ErrNone, at("b", write(0, "x", b))...)
	well(t, s, shut(2, 1, 2, w))
	fails(t, s, api.ErrNone, at("a", write(0, "x", w))...)
}

// P113: locks hold off other locks, and nothing else: who has no lock reads and writes all the same.
func TestLocksHoldOffLocks(t *testing.T) {
	s := office(t, 1)
	st := opens(t, s, "a", 1, 1, 0, 3)
	well(t, s, locks("lock", st, 0, 0, api.Write))
	well(t, s, at("a", write(0, "abc", state{}))...)
	answers(t, s, reply{Text: "abc", End: true}, at("a", read(0, 9, state{}))...)
}
