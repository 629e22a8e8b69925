package call_test

import (
	"math"
	"strings"
	"testing"

	"pigeonholes/api"
	"pigeonholes/call"
)

// IDs that can be written.
var someIDs = []int{0, 1, 2, 255, 256, 1<<31 - 1, 1 << 31, 1<<32 - 1, 1 << 32, 1 << 62, math.MaxInt - 1, math.MaxInt}

// P150: an ID of eight bytes, the highest first, how many bytes, the bytes, and bytes 0 up to four.
func TestEncode(t *testing.T) {
	for _, c := range []struct {
		r    request
		want string
	}{
		{request{}, "\x00\x00\x00\x00\x00\x00\x00\x00\x00\x00\x00\x00"},
		{request{1, "ab"}, "\x00\x00\x00\x00\x00\x00\x00\x01\x00\x00\x00\x02ab\x00\x00"},
		{request{258, "abcd"}, "\x00\x00\x00\x00\x00\x00\x01\x02\x00\x00\x00\x04abcd"},
		{request{math.MaxInt, "\xff"}, "\x7f\xff\xff\xff\xff\xff\xff\xff\x00\x00\x00\x01\xff\x00\x00\x00"},
		{request{1 << 32, "\x00\x00\x00"}, "\x00\x00\x00\x01\x00\x00\x00\x00\x00\x00\x00\x03\x00\x00\x00\x00"},
	} {
		if s, err := call.Encode(c.r); s != c.want || err != nil {
			t.Errorf("%v: %q, %v", c.r, s, err)
		}
	}
}

// P150: what is encoded is decoded, of any ID, and any text up to the longest.
func TestThereAndBack(t *testing.T) {
	for _, id := range someIDs {
		for _, text := range []string{"", "a", "ab", "abc", "abcd", "\x00", "\xff\xfe", "ä\n", strings.Repeat("x", mostText-1), strings.Repeat("\xff", mostText)} {
			s, err := call.Encode(request{id, text})
			if s != textOf(request{id, text}) || err != nil {
				t.Fatalf("%d, %.20q: %.40q, %v", id, text, s, err)
			}
			if r, err := call.Decode(s); r != (request{id, text}) || err != nil {
				t.Fatalf("%d, %.20q: %d, %.20q, %v", id, text, r.ID, r.Text, err)
			}
		}
	}
}

// P150: ErrBound: an ID below 0; ahead of a text that has no room.
func TestEncodeBound(t *testing.T) {
	for _, id := range []int{-1, -2, -1 << 32, math.MinInt + 1, math.MinInt} {
		for _, text := range []string{"", "a", strings.Repeat("x", mostText+1), strings.Repeat("x", 1<<20)} {
			s, err := call.Encode(request{id, text})
			checkErr(t, err, api.ErrBound)
			if s != "" {
				t.Errorf("%d: %q", id, s)
			}
		}
	}
}

// P150: ErrFull: more than MaxText bytes in all.
func TestEncodeFull(t *testing.T) {
	for _, id := range someIDs {
		for _, many := range []int{mostText + 1, mostText + 2, mostText + 4, api.MaxText - 4, api.MaxText, api.MaxText + 1, 1 << 20} {
			s, err := call.Encode(request{id, strings.Repeat("x", many)})
			checkErr(t, err, api.ErrFull)
			if s != "" {
				t.Errorf("%d: %.20q", many, s)
			}
		}
	}
}

// decodesNot: ErrText, and nothing else.
func decodesNot(t *testing.T, s string) {
	t.Helper()
	r, err := call.Decode(s)
	checkErr(t, err, api.ErrText)
	if r != (request{}) {
		t.Errorf("%q: %v", s, r)
	}
}

// P150: ErrText: cut short anywhere, or with something behind.
func TestDecodeCut(t *testing.T) {
	for _, text := range []string{"", "a", "abc", "abcd", "abcdefghi"} {
		s := textOf(request{7, text})
		for i := range len(s) {
			decodesNot(t, s[:i])
		}
		for _, more := range []string{"\x00", "a", "\x00\x00\x00\x00", s} {
			decodesNot(t, s+more)
		}
		decodesNot(t, "\x00"+s)
		decodesNot(t, s[1:])
	}
}

// P150: ErrText: an ID of 2^63 or more, which would be below 0; bytes that are more than there are; bytes behind that are not 0.
func TestDecodeWrong(t *testing.T) {
	for _, s := range []string{
		"\x80\x00\x00\x00\x00\x00\x00\x00\x00\x00\x00\x00",
		"\xff\xff\xff\xff\xff\xff\xff\xff\x00\x00\x00\x01a\x00\x00\x00",
		"\x00\x00\x00\x00\x00\x00\x00\x01\x00\x00\x00\x05abcd",
		"\x00\x00\x00\x00\x00\x00\x00\x01\xff\xff\xff\xffabcd",
		"\x00\x00\x00\x00\x00\x00\x00\x01\x80\x00\x00\x00",
		"\x00\x00\x00\x00\x00\x00\x00\x01\x00\x00\x00\x03abcd",
		"\x00\x00\x00\x00\x00\x00\x00\x01\x00\x00\x00\x01a\x00\x00\x01",
		"\x00\x00\x00\x00\x00\x00\x00\x01\x00\x00\x00\x01a\x01\x00\x00",
		"\x00\x00\x00\x00\x00\x00\x00\x01\x00\x00\x00\x00\x00\x00\x00\x00",
		"what is that, a text?",
		textOf(request{1, strings.Repeat("x", api.MaxText+1)}),
		textOf(request{1, strings.Repeat("x", 1<<20)}),
	} {
		decodesNot(t, s)
	}
}

// FuzzDecode: what can be decoded is encoded as it was, and nothing else can.
func FuzzDecode(f *testing.F) {
	for _, r := range []request{{}, {1, "ab"}, {math.MaxInt, "abc"}, {7, strings.Repeat("x", mostText)}, {7, strings.Repeat("x", mostText+1)}} {
		s := textOf(r)
		for _, x := range []string{s, s[1:], s + "\x00", strings.Replace(s, "\x00", "\x80", 1)} {
			f.Add(x)
		}
	}
	f.Fuzz(func(t *testing.T, s string) {
		r, err := call.Decode(s)
		if err != nil {
			decodesNot(t, s)
			return
		}
		if r.ID < 0 || textOf(r) != s {
			t.Fatalf("%q: %v", s, r)
		}
		again, err := call.Encode(r)
		if len(s) > api.MaxText {
			checkErr(t, err, api.ErrFull)
		} else if again != s || err != nil {
			t.Fatalf("%q: %q, %v", s, again, err)
		}
	})
}
