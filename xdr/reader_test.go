package xdr_test

import (
	"math"
	"slices"
	"strings"
	"testing"

	"pigeonholes/api"
	"pigeonholes/xdr"
)

// read is one call of a reader.
type read func(r *xdr.Reader) (any, error)

func getInt(r *xdr.Reader) (any, error)  { return r.Int() }
func getLong(r *xdr.Reader) (any, error) { return r.Long() }
func getBool(r *xdr.Reader) (any, error) { return r.Bool() }
func getBytes(most int) read {
	return func(r *xdr.Reader) (any, error) { return r.Bytes(most) }
}

// rest is what a reader has left, as numbers; -1 stands for less than four bytes at the end.
func rest(r *xdr.Reader) []int {
	var l []int
	for r.End() != nil {
		n, err := r.Int()
		if err != nil {
			return append(l, -1)
		}
		l = append(l, n)
	}
	return l
}

// P11: what each call reads, and that it reads no more.
func TestReaderReads(t *testing.T) {
	for _, c := range []struct {
		name string
		text string
		get  read
		want any
	}{
		{"int 0", "\x00\x00\x00\x00", getInt, 0},
		{"int, highest first", "\x01\x02\x03\x04", getInt, 0x01020304},
		{"int, the greatest", "\xff\xff\xff\xff", getInt, 1<<32 - 1},
		{"long 0", "\x00\x00\x00\x00\x00\x00\x00\x00", getLong, 0},
		{"long, highest first", "\x01\x02\x03\x04\x05\x06\x07\x08", getLong, 0x0102030405060708},
		{"long, the greatest", "\x7f\xff\xff\xff\xff\xff\xff\xff", getLong, math.MaxInt},
		{"false", "\x00\x00\x00\x00", getBool, false},
		{"true", "\x00\x00\x00\x01", getBool, true},
		{"no bytes", "\x00\x00\x00\x00", getBytes(0), ""},
		{"no bytes of some", "\x00\x00\x00\x00", getBytes(9), ""},
		{"1 byte", "\x00\x00\x00\x01a\x00\x00\x00", getBytes(1), "a"},
		{"2 bytes", "\x00\x00\x00\x02ab\x00\x00", getBytes(2), "ab"},
		{"3 bytes", "\x00\x00\x00\x03abc\x00", getBytes(3), "abc"},
		{"4 bytes", "\x00\x00\x00\x04abcd", getBytes(4), "abcd"},
		{"5 bytes, any many", "\x00\x00\x00\x05abcde\x00\x00\x00", getBytes(math.MaxInt), "abcde"},
		{"bytes of any kind", "\x00\x00\x00\x03\x00\xff\x80\x00", getBytes(3), "\x00\xff\x80"},
	} {
		for _, behind := range []string{"", "\x00\x00\x00\x05", "z"} {
			r := xdr.NewReader(c.text + behind)
			if got, err := c.get(r); err != nil || got != c.want {
				t.Errorf("%s: %v, %v; want %v", c.name, got, err, c.want)
			}
			if err := r.End(); (err == nil) != (behind == "") {
				t.Errorf("%s, then %q: end: %v", c.name, behind, err)
			}
			if n, err := r.Int(); len(behind) == 4 && (n != 5 || err != nil) {
				t.Errorf("%s, then 5: %v, %v", c.name, n, err)
			}
		}
	}
}

// P11, P3: what cannot be read is ErrText, bare, with a zero value, and nothing was read.
func TestReaderFaults(t *testing.T) {
	for _, c := range []struct {
		name string
		text string
		get  read
		zero any
	}{
		{"int of 0 bytes", "", getInt, 0},
		{"int of 3 bytes", "\x00\x00\x01", getInt, 0},
		{"long of 0 bytes", "", getLong, 0},
		{"long of 4 bytes", "\x00\x00\x00\x01", getLong, 0},
		{"long of 7 bytes", "\x00\x00\x00\x00\x00\x00\x01", getLong, 0},
		{"long 2^63", "\x80\x00\x00\x00\x00\x00\x00\x00", getLong, 0},
		{"long 2^64 - 1", "\xff\xff\xff\xff\xff\xff\xff\xff", getLong, 0},
		{"bool of 0 bytes", "", getBool, false},
		{"bool of 3 bytes", "\x00\x00\x00", getBool, false},
		{"bool 2", "\x00\x00\x00\x02", getBool, false},
		{"bool 256", "\x00\x00\x01\x00", getBool, false},
		{"bool 2^24 + 1", "\x01\x00\x00\x01", getBool, false},
		{"bool 2^32 - 1", "\xff\xff\xff\xff", getBool, false},
		{"bytes, not how many", "\x00\x00\x00", getBytes(9), ""},
		{"bytes, nothing at all", "", getBytes(9), ""},
		{"bytes that are missing", "\x00\x00\x00\x01", getBytes(9), ""},
		{"bytes, one of them missing", "\x00\x00\x00\x04abc", getBytes(9), ""},
		{"bytes, no zeros", "\x00\x00\x00\x01a", getBytes(9), ""},
		{"bytes, a zero missing", "\x00\x00\x00\x01a\x00\x00", getBytes(9), ""},
		{"bytes, first of the zeros", "\x00\x00\x00\x01a\x01\x00\x00", getBytes(9), ""},
		{"bytes, middle of the zeros", "\x00\x00\x00\x01a\x00\x80\x00", getBytes(9), ""},
		{"bytes, last of the zeros", "\x00\x00\x00\x01a\x00\x00\x01", getBytes(9), ""},
		{"bytes, the zero alone", "\x00\x00\x00\x03abcd", getBytes(9), ""},
		{"bytes, one more than most", "\x00\x00\x00\x03abc\x00", getBytes(2), ""},
		{"bytes, up to four more than most", "\x00\x00\x00\x04abcd", getBytes(3), ""},
		{"bytes, most 0", "\x00\x00\x00\x01a\x00\x00\x00", getBytes(0), ""},
		{"no bytes, most -1", "\x00\x00\x00\x00", getBytes(-1), ""},
		{"no bytes, most the least", "\x00\x00\x00\x00", getBytes(math.MinInt), ""},
		{"bytes, as many as can be told", "\xff\xff\xff\xffabcd", getBytes(math.MaxInt), ""},
		{"bytes, 2^31", "\x80\x00\x00\x00abcd", getBytes(math.MaxInt), ""},
	} {
		r := xdr.NewReader(c.text)
		for range 2 {
			if got, err := c.get(r); err != api.ErrText || got != c.zero {
				t.Errorf("%s: %v, %v", c.name, got, err)
			}
		}
		if got, want := rest(r), rest(xdr.NewReader(c.text)); !slices.Equal(got, want) {
			t.Errorf("%s: left behind the error: %x; want %x", c.name, got, want)
		}
	}
}

// P11: a call that fits reads on where another one had an error.
func TestReaderGoesOnBehindAnError(t *testing.T) {
	r := xdr.NewReader("\x00\x00\x00\x07" + "\x00\x00\x00\x02ab\x00\x00")
	if n, err := r.Int(); n != 7 || err != nil {
		t.Error(n, err)
	}
	if b, err := r.Bool(); b || err != api.ErrText {
		t.Error(b, err)
	}
	if s, err := r.Bytes(1); s != "" || err != api.ErrText {
		t.Error(s, err)
	}
	if err := r.End(); err != api.ErrText {
		t.Error(err)
	}
	if s, err := r.Bytes(2); s != "ab" || err != nil {
		t.Error(s, err)
	}
	if err := r.End(); err != nil {
		t.Error(err)
	}
}

// P11: the end of a text, which reads nothing.
func TestReaderEnd(t *testing.T) {
	for _, n := range []int{1, 3, 4, 5, api.MaxText} {
		r := xdr.NewReader(strings.Repeat("\x00", n))
		for range 3 {
			if err := r.End(); err != api.ErrText {
				t.Errorf("%d bytes: %v", n, err)
			}
		}
		if l := rest(r); len(l) != (n+3)/4 {
			t.Errorf("%d bytes: %d numbers", n, len(l))
		}
	}
	r := xdr.NewReader("")
	for range 3 {
		if err := r.End(); err != nil {
			t.Error(err)
		}
	}
}

// P11 sets no bound to what is read, but the one that is handed over.
func TestReaderOfMoreThanAWriterWrites(t *testing.T) {
	s := strings.Repeat("x", 1<<16)
	r := xdr.NewReader("\x00\x01\x00\x00" + s)
	if got, err := r.Bytes(1 << 16); got != s || err != nil || r.End() != nil {
		t.Error(len(got), err)
	}
}
