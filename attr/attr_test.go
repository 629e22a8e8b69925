package attr_test

import (
	"errors"
	"math"
	"sync"
	"testing"

	"pigeonholes/api"
	"pigeonholes/attr"
	"pigeonholes/plain"
)

// What the package exports, as it was given.
var (
	_ func(api.Attr, int) (string, error)         = attr.Encode
	_ func(string) (api.Attr, int, error)         = attr.Decode
	_ func(api.Attr, api.Attr, int) (bool, error) = attr.Same
)

// noMasks are numbers that are none, some with the bits of one in them.
var noMasks = []int{-1, -2, -31, -32, 32, 33, 63, 64, 255, 1 << 16, 1<<31 - 1, 1<<32 - 1, 1 << 32, 1<<32 + 1, math.MaxInt, math.MinInt, math.MinInt + 1}

// field is a number of an Attr: where it stands, which bit asks for it, and how many bytes it has on the wire.
type field struct {
	name  string
	at    func(a *api.Attr) *int
	bit   int
	bytes int
}

// fields in the order of the wire.
func fields() []field {
	return []field{
		{"Kind", func(a *api.Attr) *int { return &a.Kind }, 1, 4},
		{"Size", func(a *api.Attr) *int { return &a.Size }, 2, 8},
		{"Links", func(a *api.Attr) *int { return &a.Links }, 4, 4},
		{"Change", func(a *api.Attr) *int { return &a.Change }, 8, 8},
		{"Up.Node", func(a *api.Attr) *int { return &a.Up.Node }, 16, 4},
		{"Up.Gen", func(a *api.Attr) *int { return &a.Up.Gen }, 16, 4},
	}
}

// most that the number can be.
func (f field) most() int {
	if f.bytes == 4 {
		return math.MaxUint32
	}
	return math.MaxInt
}

// whole has a number of its own in each field, with unlike bytes.
func whole() api.Attr {
	return api.Attr{Kind: 0x01020304, Size: 0x1112131415161718, Links: 0x21222324, Change: 0x3132333435363738, Up: api.Handle{Node: 0x41424344, Gen: 0x51525354}}
}

// textOf what a mask asks for, by the words of P30 alone.
func textOf(a api.Attr, mask int) string {
	b := []byte{0, 0, 0, byte(mask)}
	for _, f := range fields() {
		if mask&f.bit == 0 {
			continue
		}
		n := *f.at(&a)
		for i := f.bytes - 1; i >= 0; i-- {
			b = append(b, byte(n>>(8*i)))
		}
	}
	return string(b)
}

// onlyAsked is an Attr without what a mask does not ask for.
func onlyAsked(a api.Attr, mask int) api.Attr {
	for _, f := range fields() {
		if mask&f.bit == 0 {
			*f.at(&a) = 0
		}
	}
	return a
}

// P30: what stands in a text, written out.
func TestTextsOfMasks(t *testing.T) {
	const (
		kind   = "\x01\x02\x03\x04"
		size   = "\x11\x12\x13\x14\x15\x16\x17\x18"
		links  = "\x21\x22\x23\x24"
		change = "\x31\x32\x33\x34\x35\x36\x37\x38"
		up     = "\x41\x42\x43\x44\x51\x52\x53\x54"
	)
	for mask, want := range map[int]string{
		0:  "\x00\x00\x00\x00",
		1:  "\x00\x00\x00\x01" + kind,
		2:  "\x00\x00\x00\x02" + size,
		4:  "\x00\x00\x00\x04" + links,
		8:  "\x00\x00\x00\x08" + change,
		16: "\x00\x00\x00\x10" + up,
		3:  "\x00\x00\x00\x03" + kind + size,
		17: "\x00\x00\x00\x11" + kind + up,
		12: "\x00\x00\x00\x0c" + links + change,
		26: "\x00\x00\x00\x1a" + size + change + up,
		30: "\x00\x00\x00\x1e" + size + links + change + up,
		31: "\x00\x00\x00\x1f" + kind + size + links + change + up,
	} {
		if s, err := attr.Encode(whole(), mask); s != want || err != nil {
			t.Errorf("%d: %q, %v; want %q", mask, s, err, want)
		}
		if a, m, err := attr.Decode(want); a != onlyAsked(whole(), mask) || m != mask || err != nil {
			t.Errorf("%q: %v, %d, %v", want, a, m, err)
		}
	}
}

// P30: what is not there is 0.
func TestWhatIsNotThereIsZero(t *testing.T) {
	for s, want := range map[string]api.Attr{
		"\x00\x00\x00\x00":                                 {},
		"\x00\x00\x00\x01\x00\x00\x00\x02":                 {Kind: 2},
		"\x00\x00\x00\x02\x00\x00\x00\x00\x00\x00\x01\x00": {Size: 256},
		"\x00\x00\x00\x04\x00\x00\x00\x09":                 {Links: 9},
		"\x00\x00\x00\x08\x00\x00\x00\x01\x00\x00\x00\x00": {Change: 1 << 32},
		"\x00\x00\x00\x10\x00\x00\x00\x03\x00\x00\x00\x04": {Up: api.Handle{Node: 3, Gen: 4}},
	} {
		if a, mask, err := attr.Decode(s); a != want || mask != int(s[3]) || err != nil {
			t.Errorf("%q: %v, %d, %v; want %v", s, a, mask, err, want)
		}
	}
}

// P30, P31: a mask is from 0 to 31; P3: what is none is ErrBound, bare, whatever it would ask for.
func TestNoMasks(t *testing.T) {
	wrong := api.Attr{Kind: -1, Size: -1, Links: -1, Change: -1, Up: api.Handle{Node: -1, Gen: -1}}
	for _, mask := range noMasks {
		for _, a := range []api.Attr{{}, whole(), wrong} {
			s, err := attr.Encode(a, mask)
			if s != "" {
				t.Errorf("%d: %q beside an error", mask, s)
			}
			checkBare(t, err, api.ErrBound, 2)
			same, err := attr.Same(a, a, mask)
			if same {
				t.Errorf("%d: same beside an error", mask)
			}
			checkBare(t, err, api.ErrBound, 2)
		}
	}
}

// checkBare: the error itself, without a place.
func checkBare(t *testing.T, err, want error, code int) {
	t.Helper()
	var fault *api.Fault
	if err != want || errors.As(err, &fault) {
		t.Errorf("%v; want %v", err, want)
	}
	if c, at := plain.Code(err); c != code || at != -1 {
		t.Errorf("%v: %d at %d", err, c, at)
	}
}

// P30: the edges of each number, under each mask: ErrBound where it is asked for, and nothing where it is not.
func TestEdgesOfNumbers(t *testing.T) {
	for _, f := range fields() {
		for _, n := range []int{0, 1, 255, 256, 1<<31 - 1, 1 << 31, math.MaxUint32, 1 << 32, 1<<32 + 1, math.MaxInt, -1, math.MinInt, math.MinInt + 1} {
			for mask := range 32 {
				a := whole()
				*f.at(&a) = n
				want, wrong := textOf(a, mask), mask&f.bit != 0 && (n < 0 || n > f.most())
				if wrong {
					want = ""
				}
				s, err := attr.Encode(a, mask)
				if s != want || wrong && err != api.ErrBound || !wrong && err != nil {
					t.Errorf("%s %d, mask %d: %q, %v", f.name, n, mask, s, err)
				}
			}
		}
	}
}

// P30: several numbers that cannot be written are one ErrBound.
func TestNothingCanBeWritten(t *testing.T) {
	a := api.Attr{Kind: -1, Size: -1, Links: 1 << 32, Change: math.MinInt, Up: api.Handle{Node: math.MaxInt, Gen: -1}}
	for mask := range 32 {
		s, err := attr.Encode(a, mask)
		if mask == 0 && (s != "\x00\x00\x00\x00" || err != nil) || mask > 0 && (s != "" || err != api.ErrBound) {
			t.Errorf("%d: %q, %v", mask, s, err)
		}
	}
}

// P30, P3: what is no text is ErrText, bare, and answers nothing beside it.
func TestNoTexts(t *testing.T) {
	long := "\x7f\xff\xff\xff\xff\xff\xff\xff"
	for _, s := range []string{
		"", "\x00", "\x00\x00\x00", "abc",
		"\x00\x00\x00\x20", "\x00\x00\x00\x21\x00\x00\x00\x01", "\x00\x00\x00\xff", "\x00\x00\x01\x00", "\x00\x01\x00\x01\x00\x00\x00\x01",
		"\x01\x00\x00\x00", "\x80\x00\x00\x00", "\x80\x00\x00\x01\x00\x00\x00\x01", "\xff\xff\xff\xff",
		"\x00\x00\x00\x01", "\x00\x00\x00\x01\x00", "\x00\x00\x00\x01\x00\x00\x00",
		"\x00\x00\x00\x02\x00\x00\x00\x01", "\x00\x00\x00\x02\x80\x00\x00\x00\x00\x00\x00\x00", "\x00\x00\x00\x02\xff\xff\xff\xff\xff\xff\xff\xff",
		"\x00\x00\x00\x08\x80\x00\x00\x00\x00\x00\x00\x00", "\x00\x00\x00\x0a" + long + "\xff" + long[1:],
		"\x00\x00\x00\x10\x00\x00\x00\x01", "\x00\x00\x00\x10\x00\x00\x00\x01\x00\x00\x00",
	} {
		checkNone(t, s)
	}
	for mask := range 32 {
		s := textOf(whole(), mask)
		for n := range len(s) {
			checkNone(t, s[:n])
		}
		for _, more := range []string{"\x00", "x", "\x00\x00\x00\x00", "\x00\x00\x00\x01", long, s} {
			checkNone(t, s+more)
		}
		for _, b := range []byte{32, 64, 128} { // bits that ask for nothing
			checkNone(t, s[:3]+string([]byte{s[3] | b})+s[4:])
		}
	}
}

func checkNone(t *testing.T, s string) {
	t.Helper()
	a, mask, err := attr.Decode(s)
	if a != (api.Attr{}) || mask != 0 {
		t.Errorf("%q: %v, %d beside an error", s, a, mask)
	}
	checkBare(t, err, api.ErrText, 1)
}

// P31: each number counts where its bit asks, and nowhere else.
func TestSame(t *testing.T) {
	for _, f := range fields() {
		for _, n := range []int{0, -1, 1 << 32, math.MaxInt, math.MinInt, *f.at(new(whole())) + 1, *f.at(new(whole())) + 1<<32} {
			for mask := range 32 {
				a, b := whole(), whole()
				*f.at(&b) = n
				want := mask&f.bit == 0
				for _, pair := range [][2]api.Attr{{a, b}, {b, a}} {
					if same, err := attr.Same(pair[0], pair[1], mask); same != want || err != nil {
						t.Errorf("%s %d, mask %d: %v, %v", f.name, n, mask, same, err)
					}
				}
			}
		}
	}
}

// P31: numbers that cannot be written can be alike all the same.
func TestSameOfAnyNumbers(t *testing.T) {
	for _, n := range []int{-1, 0, 1 << 32, math.MaxInt, math.MinInt} {
		a := api.Attr{Kind: n, Size: n, Links: n, Change: n, Up: api.Handle{Node: n, Gen: n}}
		for mask := range 32 {
			if same, err := attr.Same(a, a, mask); !same || err != nil {
				t.Errorf("%d, mask %d: %v, %v", n, mask, same, err)
			}
			if same, err := attr.Same(a, whole(), mask); same != (mask == 0) || err != nil {
				t.Errorf("%d, mask %d: %v, %v", n, mask, same, err)
			}
		}
	}
}

// P31: a number is not held against another one's.
func TestSameOfNumbersThatChangePlaces(t *testing.T) {
	a := api.Attr{Kind: 1, Size: 2, Links: 1, Change: 2, Up: api.Handle{Node: 1, Gen: 2}}
	b := api.Attr{Kind: 2, Size: 1, Links: 2, Change: 1, Up: api.Handle{Node: 2, Gen: 1}}
	for mask := range 32 {
		if same, err := attr.Same(a, b, mask); same != (mask == 0) || err != nil {
			t.Errorf("%d: %v, %v", mask, same, err)
		}
	}
}

// P2: an answer hangs on what is given alone, whatever others ask side by side.
func TestSideBySide(t *testing.T) {
	var wait sync.WaitGroup
	for i := range 8 {
		wait.Go(func() {
			for n := range 320 {
				a, mask := whole(), n%32
				a.Links = i
				s, err := attr.Encode(a, mask)
				back, m, bad := attr.Decode(s)
				if s != textOf(a, mask) || err != nil || back != onlyAsked(a, mask) || m != mask || bad != nil {
					t.Errorf("%d, mask %d: %q, %v, %v, %d, %v", i, mask, s, err, back, m, bad)
				}
			}
		})
	}
	wait.Wait()
}
