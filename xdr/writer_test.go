package xdr_test

import (
	"math"
	"strings"
	"testing"

	"pigeonholes/api"
	"pigeonholes/xdr"
)

// write is one call of a writer.
type write func(w *xdr.Writer) error

func putInt(n int) write      { return func(w *xdr.Writer) error { return w.Int(n) } }
func putLong(n int) write     { return func(w *xdr.Writer) error { return w.Long(n) } }
func putBool(b bool) write    { return func(w *xdr.Writer) error { return w.Bool(b) } }
func putBytes(s string) write { return func(w *xdr.Writer) error { return w.Bytes(s) } }

// filled is a writer that has size bytes, a multiple of four.
func filled(t *testing.T, size int) *xdr.Writer {
	t.Helper()
	w := &xdr.Writer{}
	for range size / 4 {
		if err := w.Int(7); err != nil {
			t.Fatal(err)
		}
	}
	if len(w.Text()) != size {
		t.Fatalf("a writer of %d bytes, not %d", len(w.Text()), size)
	}
	return w
}

// P10: what each call writes.
func TestWriterWrites(t *testing.T) {
	for _, c := range []struct {
		name string
		put  write
		want string
	}{
		{"int 0", putInt(0), "\x00\x00\x00\x00"},
		{"int 1", putInt(1), "\x00\x00\x00\x01"},
		{"int, highest first", putInt(0x01020304), "\x01\x02\x03\x04"},
		{"int 2^31", putInt(1 << 31), "\x80\x00\x00\x00"},
		{"int, the greatest", putInt(1<<32 - 1), "\xff\xff\xff\xff"},
		{"long 0", putLong(0), "\x00\x00\x00\x00\x00\x00\x00\x00"},
		{"long, highest first", putLong(0x0102030405060708), "\x01\x02\x03\x04\x05\x06\x07\x08"},
		{"long above every int", putLong(1 << 32), "\x00\x00\x00\x01\x00\x00\x00\x00"},
		{"long, the greatest", putLong(math.MaxInt), "\x7f\xff\xff\xff\xff\xff\xff\xff"},
		{"false", putBool(false), "\x00\x00\x00\x00"},
		{"true", putBool(true), "\x00\x00\x00\x01"},
		{"no bytes", putBytes(""), "\x00\x00\x00\x00"},
		{"1 byte", putBytes("a"), "\x00\x00\x00\x01a\x00\x00\x00"},
		{"2 bytes", putBytes("ab"), "\x00\x00\x00\x02ab\x00\x00"},
		{"3 bytes", putBytes("abc"), "\x00\x00\x00\x03abc\x00"},
		{"4 bytes", putBytes("abcd"), "\x00\x00\x00\x04abcd"},
		{"5 bytes", putBytes("abcde"), "\x00\x00\x00\x05abcde\x00\x00\x00"},
		{"bytes of any kind", putBytes("\x00\xff\x80"), "\x00\x00\x00\x03\x00\xff\x80\x00"},
		{"bytes, not runes", putBytes("é"), "\x00\x00\x00\x02\xc3\xa9\x00\x00"},
		{"256 bytes", putBytes(strings.Repeat("x", 256)), "\x00\x00\x01\x00" + strings.Repeat("x", 256)},
	} {
		w := &xdr.Writer{}
		if err := c.put(w); err != nil || w.Text() != c.want {
			t.Errorf("%s: %q, %v; want %q", c.name, w.Text(), err, c.want)
		}
	}
}

// P10: the zero value is empty, and calls write one behind the other.
func TestWriterStartsEmptyAndGoesOn(t *testing.T) {
	var w xdr.Writer
	if w.Text() != "" {
		t.Errorf("%q", w.Text())
	}
	for _, put := range []write{putBytes("a"), putInt(2), putBool(true), putLong(3), putBytes("")} {
		if err := put(&w); err != nil {
			t.Fatal(err)
		}
	}
	want := "\x00\x00\x00\x01a\x00\x00\x00" + "\x00\x00\x00\x02" + "\x00\x00\x00\x01" + "\x00\x00\x00\x00\x00\x00\x00\x03" + "\x00\x00\x00\x00"
	if w.Text() != want {
		t.Errorf("%q; want %q", w.Text(), want)
	}
}

// P10, P3: numbers out of range are ErrBound, bare, and write nothing; that goes ahead of ErrFull.
func TestWriterBound(t *testing.T) {
	for name, put := range map[string]write{
		"int -1":          putInt(-1),
		"int 2^32":        putInt(1 << 32),
		"int 2^32 + 1":    putInt(1<<32 + 1),
		"int, the most":   putInt(math.MaxInt),
		"int, the least":  putInt(math.MinInt),
		"long -1":         putLong(-1),
		"long, the least": putLong(math.MinInt),
	} {
		for _, size := range []int{0, 8, api.MaxText} {
			w := filled(t, size)
			old := w.Text()
			if err := put(w); err != api.ErrBound || w.Text() != old {
				t.Errorf("%s behind %d bytes: %v, %d bytes", name, size, err, len(w.Text()))
			}
		}
	}
}

// P10, P3: MaxText bytes fit; one call more is ErrFull, bare, and writes nothing.
func TestWriterFull(t *testing.T) {
	for _, c := range []struct {
		name string
		put  write
		size int // bytes that it writes
	}{
		{"int", putInt(5), 4},
		{"long", putLong(5), 8},
		{"bool", putBool(true), 4},
		{"no bytes", putBytes(""), 4},
		{"1 byte", putBytes("a"), 8},
		{"3 bytes", putBytes("abc"), 8},
		{"4 bytes", putBytes("abcd"), 8},
		{"5 bytes", putBytes("abcde"), 12},
		{"as many bytes as there can be", putBytes(strings.Repeat("x", api.MaxText-4)), api.MaxText},
		{"one less", putBytes(strings.Repeat("x", api.MaxText-5)), api.MaxText},
	} {
		w := filled(t, api.MaxText-c.size)
		if err := c.put(w); err != nil || len(w.Text()) != api.MaxText {
			t.Errorf("%s: %v, %d bytes", c.name, err, len(w.Text()))
		}
		for room := 0; room < c.size; room += 4 {
			w := filled(t, api.MaxText-room)
			old := w.Text()
			if err := c.put(w); err != api.ErrFull || w.Text() != old {
				t.Errorf("%s with room for %d: %v, %d bytes", c.name, room, err, len(w.Text()))
			}
		}
	}
}

// P10: bytes that fit into no text at all.
func TestWriterFullOfBytes(t *testing.T) {
	for _, n := range []int{api.MaxText - 3, api.MaxText, api.MaxText + 1, 1 << 20} {
		w := &xdr.Writer{}
		if err := w.Bytes(strings.Repeat("x", n)); err != api.ErrFull || w.Text() != "" {
			t.Errorf("%d bytes: %v, %d bytes", n, err, len(w.Text()))
		}
	}
}

// P10, P3: a writer that answered an error goes on as if it had not been asked.
func TestWriterGoesOnBehindAnError(t *testing.T) {
	w := filled(t, api.MaxText-4)
	old := w.Text()
	for _, put := range []write{putBytes("a"), putLong(1), putInt(-1)} {
		if put(w) == nil {
			t.Fatal("no error")
		}
	}
	if err := w.Int(9); err != nil || w.Text() != old+"\x00\x00\x00\x09" {
		t.Error(err)
	}
}
