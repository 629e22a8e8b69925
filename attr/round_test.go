package attr_test

import (
	"math"
	"math/rand"
	"testing"

	"pigeonholes/api"
	"pigeonholes/attr"
)

// anyAttr draws one that can be written; small numbers come often.
func anyAttr(rnd *rand.Rand) api.Attr {
	var a api.Attr
	for _, f := range fields() {
		*f.at(&a) = rnd.Intn(math.MaxInt) >> rnd.Intn(63) & f.most()
	}
	return a
}

// P32: what is encoded is decoded, and is the same in what was asked for.
func TestWhatIsEncodedIsDecoded(t *testing.T) {
	rnd := rand.New(rand.NewSource(32))
	for range 500 {
		a := anyAttr(rnd)
		for mask := range 32 {
			checkRound(t, a, mask)
		}
	}
}

// P32: the least and the most of all numbers.
func TestEdgesAreDecoded(t *testing.T) {
	var most api.Attr
	for _, f := range fields() {
		*f.at(&most) = f.most()
	}
	for mask := range 32 {
		checkRound(t, api.Attr{}, mask)
		checkRound(t, most, mask)
	}
}

// P32: numbers that are not asked for do not stand in the way.
func TestWhatIsNotAskedForIsFree(t *testing.T) {
	for _, n := range []int{-1, math.MinInt, math.MaxInt} {
		for mask := range 32 {
			a := whole()
			for _, f := range fields() {
				if mask&f.bit == 0 {
					*f.at(&a) = n
				}
			}
			checkRound(t, a, mask)
		}
	}
}

func checkRound(t *testing.T, a api.Attr, mask int) {
	t.Helper()
	s, err := attr.Encode(a, mask)
	if s != textOf(a, mask) || err != nil {
		t.Fatalf("%v, mask %d: %q, %v", a, mask, s, err)
	}
	back, m, err := attr.Decode(s)
	if back != onlyAsked(a, mask) || m != mask || err != nil {
		t.Fatalf("%v, mask %d: %v, %d, %v", a, mask, back, m, err)
	}
	if same, err := attr.Same(a, back, mask); !same || err != nil {
		t.Fatalf("%v, %v, mask %d: %v, %v", a, back, mask, same, err)
	}
}

// FuzzDecode: any text (P1) is none, or just what its Attr and mask make again.
func FuzzDecode(f *testing.F) {
	for mask := range 32 {
		f.Add(textOf(whole(), mask))
	}
	for _, s := range []string{"", "\x00\x00\x00\x20", "\x00\x00\x00\x01", "\x00\x00\x00\x00\x00\x00\x00\x00", "\x00\x00\x00\x02\x80\x00\x00\x00\x00\x00\x00\x00"} {
		f.Add(s)
	}
	f.Fuzz(func(t *testing.T, s string) {
		if !isText(s) {
			checkNone(t, s)
			return
		}
		a, mask, err := attr.Decode(s)
		if err != nil || mask != int(s[3]) || a != onlyAsked(a, mask) || textOf(a, mask) != s {
			t.Fatalf("%q: %v, %d, %v", s, a, mask, err)
		}
		checkRound(t, a, mask)
	})
}

// isText tells, by the words of P30 alone, whether s can be decoded.
func isText(s string) bool {
	if len(s) < 4 || s[:3] != "\x00\x00\x00" || s[3] > 31 {
		return false
	}
	at := 4
	for _, f := range fields() {
		if int(s[3])&f.bit == 0 {
			continue
		}
		if len(s) < at+f.bytes || f.bytes == 8 && s[at] > 0x7f {
			return false
		}
		at += f.bytes
	}
	return at == len(s)
}
