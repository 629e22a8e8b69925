package xdr_test

import (
	"errors"
	"slices"
	"sync"
	"testing"

	"pigeonholes/api"
	"pigeonholes/plain"
	"pigeonholes/xdr"
)

// What the package exports, as it was given.
var (
	_ func(*xdr.Writer, int) error           = (*xdr.Writer).Int
	_ func(*xdr.Writer, int) error           = (*xdr.Writer).Long
	_ func(*xdr.Writer, bool) error          = (*xdr.Writer).Bool
	_ func(*xdr.Writer, string) error        = (*xdr.Writer).Bytes
	_ func(*xdr.Writer) string               = (*xdr.Writer).Text
	_ func(string) *xdr.Reader               = xdr.NewReader
	_ func(*xdr.Reader) (int, error)         = (*xdr.Reader).Int
	_ func(*xdr.Reader) (int, error)         = (*xdr.Reader).Long
	_ func(*xdr.Reader) (bool, error)        = (*xdr.Reader).Bool
	_ func(*xdr.Reader, int) (string, error) = (*xdr.Reader).Bytes
	_ func(*xdr.Reader) error                = (*xdr.Reader).End
)

// P2: a writer's text hangs on its own calls alone, whatever others do side by side.
func TestWritersAreApart(t *testing.T) {
	const many = 8
	texts := make([]string, many)
	var wait sync.WaitGroup
	for i := range many {
		wait.Go(func() {
			w := &xdr.Writer{}
			for n := range 400 {
				if w.Int(i) != nil || n%2 == 0 && w.Bytes("") != nil {
					return
				}
			}
			texts[i] = w.Text()
		})
	}
	wait.Wait()
	for i, text := range texts {
		r := xdr.NewReader(text)
		for n := range 400 {
			if v, err := r.Int(); v != i || err != nil {
				t.Fatal(i, n, v, err)
			}
			if n%2 == 0 {
				if s, err := r.Bytes(0); s != "" || err != nil {
					t.Fatal(i, n, s, err)
				}
			}
		}
	}
}

// P2: two readers of one text read it each for itself.
func TestReadersAreApart(t *testing.T) {
	text := "\x00\x00\x00\x01\x00\x00\x00\x02"
	a, b := xdr.NewReader(text), xdr.NewReader(text)
	for want := 1; want <= 2; want++ {
		for _, r := range []*xdr.Reader{a, b} {
			if n, err := r.Int(); n != want || err != nil {
				t.Error(n, err, want)
			}
		}
	}
}

// P4: a text that was answered stays, and so do copies of a writer, whatever is written later.
func TestTextsStay(t *testing.T) {
	w := &xdr.Writer{}
	for n := range 50 {
		old := w.Text()
		was := string([]byte(old))
		left, right := *w, *w
		if left.Int(1) != nil || right.Int(2) != nil || w.Int(n) != nil {
			t.Fatal("no room")
		}
		if old != was || left.Text() != was+"\x00\x00\x00\x01" || right.Text() != was+"\x00\x00\x00\x02" {
			t.Fatalf("%q, %q, %q behind %q", old, left.Text(), right.Text(), was)
		}
	}
}

// P4: bytes that were handed over or answered stay, whatever becomes of the memory they were made of.
func TestBytesStay(t *testing.T) {
	b := []byte("abcd")
	w := &xdr.Writer{}
	if err := w.Bytes(string(b)); err != nil {
		t.Fatal(err)
	}
	copy(b, "zzzz")
	text := []byte(w.Text())
	r := xdr.NewReader(string(text))
	clear(text)
	if s, err := r.Bytes(4); s != "abcd" || err != nil {
		t.Error(s, err)
	}
}

// P3: errors tell no place, and are those of package api.
func TestErrorsAreBare(t *testing.T) {
	full := filled(t, api.MaxText)
	_, short := xdr.NewReader("abc").Int()
	for _, c := range []struct {
		err, want error
		code      int
	}{
		{(&xdr.Writer{}).Int(-1), api.ErrBound, 2},
		{full.Int(1), api.ErrFull, 9},
		{short, api.ErrText, 1},
		{xdr.NewReader("abc").End(), api.ErrText, 1},
		{(&xdr.Writer{}).Int(1), nil, 0},
	} {
		var fault *api.Fault
		if c.err != c.want || errors.As(c.err, &fault) {
			t.Errorf("%v; want %v", c.err, c.want)
		}
		if code, at := plain.Code(c.err); code != c.code || at != -1 {
			t.Errorf("%v: %d at %d", c.err, code, at)
		}
	}
}

// P5: the numbers of package api.
func TestBoundsOfAPI(t *testing.T) {
	got := []int{
		api.MaxText, api.MaxName, api.MaxDeep, api.Block, api.MaxFile, api.MaxNodes, api.MaxEntries, api.MaxLinks, api.MaxOpens, api.MaxLocks,
		api.MaxOwners, api.MaxClients, api.MaxOps, api.MaxReplies, api.MaxMessages, api.Lease, api.Sector, api.MaxSectors, api.MaxLines, api.Workers,
		api.File, api.Dir, api.Read, api.Write,
	}
	want := []int{4000, 24, 12, 64, 4096, 300, 60, 8, 40, 60, 30, 12, 16, 20, 100, 60, 64, 4000, 100, 16, 1, 2, 1, 2}
	if !slices.Equal(got, want) {
		t.Errorf("%v; want %v", got, want)
	}
	if n := len(filled(t, 4000).Text()); n != 4000 || filled(t, 4000).Int(0) != api.ErrFull {
		t.Error("a text has up to 4000 bytes, not", n)
	}
}

// P5: the errors of package api, in the order of their numbers.
func TestErrorsOfAPI(t *testing.T) {
	texts := []string{"text", "bound", "shape", "name", "none", "exist", "dir", "file", "full", "stale", "held", "seq", "old", "grace", "power"}
	for i, err := range []error{
		api.ErrText, api.ErrBound, api.ErrShape, api.ErrName, api.ErrNone, api.ErrExist, api.ErrDir, api.ErrFile,
		api.ErrFull, api.ErrStale, api.ErrHeld, api.ErrSeq, api.ErrOld, api.ErrGrace, api.ErrPower,
	} {
		if want := "pigeonholes: " + texts[i]; err.Error() != want {
			t.Errorf("%q; want %q", err, want)
		}
		if code, at := plain.Code(&api.Fault{At: 7, Err: err}); code != i+1 || at != 7 {
			t.Errorf("%v: %d at %d", err, code, at)
		}
	}
}
