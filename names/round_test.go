package names_test

import (
	"errors"
	"math/rand"
	"slices"
	"strings"
	"testing"

	"pigeonholes/api"
	"pigeonholes/names"
)

// anyName draws a name: short ones and dots come often.
func anyName(rnd *rand.Rand) string {
	for {
		b := make([]byte, 1+rnd.Intn(1+rnd.Intn(api.MaxName)))
		for i := range b {
			if b[i] = '.'; rnd.Intn(4) > 0 {
				b[i] = signs[rnd.Intn(len(signs))]
			}
		}
		if s := string(b); s != "." && s != ".." {
			return s
		}
	}
}

// P22: what is joined is split.
func TestWhatIsJoinedIsSplit(t *testing.T) {
	rnd := rand.New(rand.NewSource(22))
	for range 5000 {
		l := make([]string, rnd.Intn(api.MaxDeep+1))
		for i := range l {
			l[i] = anyName(rnd)
		}
		checkJoined(t, l)
		s, err := names.Join(l)
		if err != nil || len(s) != max(1, len(l)+len(strings.Join(l, ""))) {
			t.Fatalf("%q: %q, %v", l, s, err)
		}
	}
	for _, l := range [][]string{nil, {}, {"a"}, {strings.Repeat("n", 24)}, slices.Repeat([]string{strings.Repeat("n", 24)}, 12)} {
		checkJoined(t, l)
	}
}

// checkJoined splits what it joined.
func checkJoined(t *testing.T, l []string) {
	t.Helper()
	s, err := names.Join(l)
	if err != nil {
		t.Fatalf("%q: %v", l, err)
	}
	if back, err := names.Split(s); err != nil || !slices.Equal(back, l) {
		t.Fatalf("%q: %q, %q, %v", l, s, back, err)
	}
}

// P20, P22: a text is a path, and then its names make it again; or its error is the first that is so.
func FuzzSplit(f *testing.F) {
	for _, s := range []string{"", "/", "a", "/a", "/a/", "//", "/a/b", "/a//b", "/./..", "/é", strings.Repeat("/d", 12), strings.Repeat("/d", 13), "/" + strings.Repeat("n", 25)} {
		f.Add(s)
	}
	f.Fuzz(func(t *testing.T, s string) {
		l, err := names.Split(s)
		if err == nil {
			checkJoined(t, l)
			if back, _ := names.Join(l); back != s || len(l) > api.MaxDeep {
				t.Fatalf("%q: %q, %q", s, l, back)
			}
			return
		}
		checkError(t, s, err)
	})
}

// checkError holds the error of a text that is no path against the promise.
func checkError(t *testing.T, s string, err error) {
	t.Helper()
	if noPath := s == "" || s[0] != '/' || len(s) > 1 && s[len(s)-1] == '/'; noPath || err == api.ErrText {
		if !noPath || err != api.ErrText {
			t.Fatalf("%q: %v", s, err)
		}
		return
	}
	l := strings.Split(s[1:], "/")
	at := slices.IndexFunc(l, func(s string) bool { return names.Check(s) != nil })
	var fault *api.Fault
	if errors.As(err, &fault) && fault.At == at && fault.Err == api.ErrName && at >= 0 {
		return
	}
	if err != api.ErrBound || at >= 0 || len(l) <= api.MaxDeep {
		t.Fatalf("%q: %v", s, err)
	}
}
