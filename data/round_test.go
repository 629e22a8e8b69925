package data_test

import (
	"math/rand"
	"testing"

	"pigeonholes/api"
	"pigeonholes/data"
)

// text is data as P42 has it: one text, written over; and for each block, whether something was written in it since it lay behind the end.
type text struct {
	s       string
	written [api.MaxFile / api.Block]bool
}

func (x *text) write(at int, s string) error {
	if at < 0 || at > api.MaxFile || at+len(s) > api.MaxFile {
		return api.ErrBound
	}
	if s == "" {
		return nil
	}
	x.s += zeros(max(0, at-len(x.s)))
	behind := ""
	if at+len(s) < len(x.s) {
		behind = x.s[at+len(s):]
	}
	x.s = x.s[:at] + s + behind
	for i := range len(s) {
		x.written[(at+i)/api.Block] = true
	}
	return nil
}

func (x *text) resize(n int) error {
	if n < 0 || n > api.MaxFile {
		return api.ErrBound
	}
	if n < len(x.s) {
		x.s = x.s[:n]
	}
	x.s += zeros(max(0, n-len(x.s)))
	for i := range x.written {
		x.written[i] = x.written[i] && i*api.Block < n
	}
	return nil
}

func (x *text) blocks() (n int) {
	for _, w := range x.written {
		if w {
			n++
		}
	}
	return n
}

// holdAgainst the text: all of the data, and a piece of them.
func holdAgainst(t *testing.T, d *data.Data, x *text, at, n int) {
	t.Helper()
	if s, end, err := d.Read(0, api.MaxFile); s != x.s || !end || err != nil {
		t.Fatalf("%q, %v, %v; want %q", s, end, err, x.s)
	}
	if d.Size() != len(x.s) || d.Blocks() != x.blocks() || len(d.Written()) != x.blocks() {
		t.Fatalf("%d bytes, %d blocks, %v; want %d, %d", d.Size(), d.Blocks(), d.Written(), len(x.s), x.blocks())
	}
	for _, i := range d.Written() {
		if !x.written[i] {
			t.Fatalf("block %d is a hole", i)
		}
	}
	from := min(at, len(x.s))
	want := x.s[from:min(from+n, len(x.s))]
	last := at >= len(x.s) || n > 0 && from+n >= len(x.s)
	if s, end, err := d.Read(at, n); s != want || end != last || err != nil {
		t.Fatalf("%d at %d: %q, %v, %v; want %q, %v", n, at, s, end, err, want, last)
	}
}

// place is often at the edge of a block, or of a file, and sometimes outside.
func place(r *rand.Rand) int {
	switch r.Intn(4) {
	case 0:
		return r.Intn(66)*api.Block + r.Intn(3) - 1
	case 1:
		return r.Intn(300)
	default:
		return r.Intn(api.MaxFile + 100)
	}
}

// P42: after any calls it is as one text, written over; copies that are put aside stay what they were.
func TestAsOneText(t *testing.T) {
	for seed := range int64(300) {
		r := rand.New(rand.NewSource(seed))
		d, x := &data.Data{}, &text{}
		kept, was := d.Copy(), *x
		for range 60 {
			at, size := place(r), r.Intn(200)
			var got, want error
			switch r.Intn(7) {
			case 0, 1, 2:
				s := make([]byte, size*r.Intn(3))
				for i := range s {
					s[i] = byte(r.Intn(3))
				}
				got, want = d.Write(at, string(s)), x.write(at, string(s))
			case 3, 4:
				got, want = d.Resize(at), x.resize(at)
			case 5:
				kept, was = d.Copy(), *x
			case 6:
				d, *x, kept, was = kept, was, d, *x
			}
			if got != want {
				t.Fatalf("seed %d: %v; want %v", seed, got, want)
			}
			holdAgainst(t, d, x, r.Intn(api.MaxFile+100), r.Intn(300))
			holdAgainst(t, kept, &was, r.Intn(api.MaxFile+100), r.Intn(300))
		}
	}
}

// FuzzData takes four bytes for each call: what it is, where, and how much.
func FuzzData(f *testing.F) {
	for _, s := range []string{"", "\x00\x00\x64\x01", "\x00\x00\x3e\x04\x01\x00\x3f\x00\x01\x00\x8c\x00", "\x00\x0f\xff\x01\x00\x0f\xff\x02\x02\x00\x00\x00\x01\x10\x01\x00"} {
		f.Add(s)
	}
	f.Fuzz(func(t *testing.T, s string) {
		d, x := &data.Data{}, &text{}
		for len(s) >= 4 && len(s) <= 400 {
			at, n := int(s[1])<<8+int(s[2]), int(s[3])
			var got, want error
			switch s[0] % 3 {
			case 0:
				got, want = d.Write(at, uneven(n)), x.write(at, uneven(n))
			case 1:
				got, want = d.Resize(at), x.resize(at)
			case 2:
				d = d.Copy()
			}
			if got != want {
				t.Fatalf("%q: %v; want %v", s[:4], got, want)
			}
			holdAgainst(t, d, x, at, n)
			s = s[4:]
		}
	})
}
