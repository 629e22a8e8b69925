package wire_test

import (
	"math"
	"slices"
	"strings"
	"testing"

	"pigeonholes/api"
	"pigeonholes/wire"
)

// P120: what stands in a text of ops, written out.
func TestTextOfOps(t *testing.T) {
	const (
		first = "\x00\x00\x00\x04kind" + "\x00\x00\x00\x01n\x00\x00\x00" + "\x00\x00\x00\x05texts\x00\x00\x00" +
			"\x00\x00\x00\x00\x01\x02\x03\x04\x05\x06\x07\x08" +
			"\x00\x00\x00\x01\x11\x12\x13\x14\x15\x16\x17\x18" +
			"\x00\x00\x00\x00\x21\x22\x23\x24\x25\x26\x27\x28" +
			"\x00\x00\x00\x01\x31\x32\x33\x34\x35\x36\x37\x38" +
			"\x00\x00\x00\x00\x41\x42\x43\x44\x45\x46\x47\x48" +
			"\x00\x00\x00\x01\x51\x52\x53\x54\x55\x56\x57\x58"
		second = "\x00\x00\x00\x04root" + "\x00\x00\x00\x00" + "\x00\x00\x00\x00" +
			"\x00\x00\x00\x00\x00\x00\x00\x00\x00\x00\x00\x00" +
			"\x00\x00\x00\x01\x00\x00\x00\x00\x00\x00\x00\x01" +
			"\x00\x00\x00\x00\x7f\xff\xff\xff\xff\xff\xff\xff" +
			"\x00\x00\x00\x01\x7f\xff\xff\xff\xff\xff\xff\xff" +
			"\x00\x00\x00\x00\x00\x00\x00\x00\x00\x00\x00\x00" +
			"\x00\x00\x00\x00\x00\x00\x00\x00\x00\x00\x00\x00"
	)
	other := op{Kind: "root", B: -1, C: math.MaxInt, Client: -math.MaxInt}
	for _, c := range []struct {
		l    []op
		want string
	}{
		{nil, "\x00\x00\x00\x00"},
		{[]op{}, "\x00\x00\x00\x00"},
		{[]op{{}}, "\x00\x00\x00\x01" + strings.Repeat("\x00", empty)},
		{[]op{wholeOp()}, "\x00\x00\x00\x01" + first},
		{[]op{wholeOp(), other}, "\x00\x00\x00\x02" + first + second},
		{[]op{other, wholeOp(), other}, "\x00\x00\x00\x03" + second + first + second},
	} {
		if s, err := wire.Ops(c.l); s != c.want || err != nil {
			t.Errorf("%+v: %q, %v; want %q", c.l, s, err, c.want)
		}
		if l, err := wire.ReadOps(c.want); !sameOps(l, c.l) || err != nil {
			t.Errorf("%q: %+v, %v; want %+v", c.want, l, err, c.l)
		}
	}
}

// P120: each number may be any but the least; that one is ErrBound wherever it stands.
func TestNumbersOfOps(t *testing.T) {
	for i := range opNumbers(&op{}) {
		for _, n := range edges {
			o, zero := wholeOp(), op{}
			*opNumbers(&o)[i], *opNumbers(&zero)[i] = n, n
			checkOps(t, o)
			checkOps(t, zero, o)
		}
		o := wholeOp()
		*opNumbers(&o)[i] = math.MinInt
		opsFail(t, api.ErrBound, o)
		opsFail(t, api.ErrBound, wholeOp(), op{}, o)
		*opNumbers(&o)[i] = math.MinInt + 1
		checkOps(t, wholeOp(), op{}, o)
	}
}

// P120: texts in an op are any bytes; what they mean is asked by nobody here.
func TestTextsInOps(t *testing.T) {
	for _, s := range []string{"", "a", "ab", "abc", "abcd", "abcde", "no kind", "\x00", "\x00\x00\x00\x00\x00", "\xff\xfe\x80", "ä/..", strings.Repeat("long", 300)} {
		checkOps(t, op{Kind: s}, op{Name: s}, op{Text: s})
	}
}

// P120: MaxOps ops are as many as can be; one more is ErrBound, ahead of all else.
func TestTooManyOps(t *testing.T) {
	for n := range api.MaxOps + 1 {
		checkOps(t, make([]op, n)...)
	}
	long := make([]op, api.MaxOps+1)
	long[0].Kind = strings.Repeat("x", api.MaxText)
	least := make([]op, api.MaxOps+1)
	least[api.MaxOps].State.Seq = math.MinInt
	for _, l := range [][]op{make([]op, api.MaxOps+1), make([]op, 1000), long, least} {
		opsFail(t, api.ErrBound, l...)
	}
}

// P120: a text of MaxText bytes is written; one that would have more is ErrFull.
func TestFullOps(t *testing.T) {
	room := api.MaxText - 4 - empty
	for _, n := range []int{room - 4, room - 3, room - 1, room} {
		s := strings.Repeat("x", n)
		checkOps(t, op{Kind: s})
		checkOps(t, op{Name: s})
		checkOps(t, op{Text: s, A: -1, State: api.State{Seq: math.MaxInt}})
	}
	if n := len(textOfOps(op{Text: strings.Repeat("x", room)})); n != api.MaxText {
		t.Fatal(n)
	}
	for _, n := range []int{room + 1, room + 4, room + 5, room + 76, room + 80, api.MaxText - 8, api.MaxText - 7, api.MaxText - 4, api.MaxText, api.MaxText + 1, 1 << 20} {
		s := strings.Repeat("x", n)
		opsFail(t, api.ErrFull, op{Kind: s})
		opsFail(t, api.ErrFull, op{Name: s})
		opsFail(t, api.ErrFull, op{Text: s})
		opsFail(t, api.ErrFull, op{}, op{Text: s}, op{})
	}
	l := make([]op, api.MaxOps) // none of them is long
	for i := range l {
		l[i].Text = strings.Repeat("y", 160)
	}
	l[0].Text += strings.Repeat("y", api.MaxText-len(textOfOps(l...)))
	checkOps(t, l...)
	l[0].Name = "z"
	opsFail(t, api.ErrFull, l...)
}

// P120: of ErrFull and ErrBound that is told to which one comes first; a least int is come to behind its Bool.
func TestWhichErrorOfOpsIsFirst(t *testing.T) {
	long := strings.Repeat("x", api.MaxText)
	opsFail(t, api.ErrFull, op{Kind: long, A: math.MinInt})
	opsFail(t, api.ErrFull, op{Text: long, A: math.MinInt})
	opsFail(t, api.ErrFull, op{Text: long}, op{A: math.MinInt})
	opsFail(t, api.ErrBound, op{State: api.State{Seq: math.MinInt}}, op{Kind: long})
	for i := range opNumbers(&op{}) {
		text := api.MaxText - 4 - 12 - 12*i - 4 // with so many, the Bool is the last that has room
		for back, want := range map[int]error{-4: api.ErrFull, 0: api.ErrBound, 4: api.ErrBound} {
			o := op{Text: strings.Repeat("x", text-back)}
			*opNumbers(&o)[i] = math.MinInt
			opsFail(t, want, o)
			*opNumbers(&o)[i] = -math.MaxInt
			opsFail(t, api.ErrFull, o)
		}
	}
}

// P120: what ends too early, or has something behind it, is no text.
func TestOpsThatAreCut(t *testing.T) {
	for _, l := range [][]op{nil, {{}}, {wholeOp()}, {{}, wholeOp(), {Kind: "read", Text: "\x00\x00\x00\x00"}}, make([]op, api.MaxOps), make([]op, api.MaxOps+1)} {
		s := textOfOps(l...)
		for n := range len(s) {
			noOps(t, api.ErrText, s[:n])
		}
		for _, more := range []string{"\x00", "x", "\x00\x00\x00\x00", "\x00\x00\x00\x01", textOfOp(op{}), s} {
			noOps(t, api.ErrText, s+more)
		}
		for _, many := range []int{len(l) + 1, len(l) - 1, len(l) + 1<<8, len(l) + 1<<24, 1<<31 - 1, 1 << 31, 1<<32 - 1} {
			if many >= 0 {
				noOps(t, api.ErrText, textOfInt(many)+s[4:])
			}
		}
	}
}

// P120: numbers that are none, in each place: below 0 and 0, a Bool that is none, a Long that is none.
func TestNoNumbersOfOps(t *testing.T) {
	ahead := textOfBytes("kind") + textOfBytes("") + textOfBytes("text")
	for i := range opNumbers(&op{}) {
		for _, wrong := range []string{
			"\x00\x00\x00\x01\x00\x00\x00\x00\x00\x00\x00\x00",
			"\x00\x00\x00\x02\x00\x00\x00\x00\x00\x00\x00\x01",
			"\x00\x00\x01\x00\x00\x00\x00\x00\x00\x00\x00\x01",
			"\xff\xff\xff\xff\x00\x00\x00\x00\x00\x00\x00\x01",
			"\x00\x00\x00\x00\x80\x00\x00\x00\x00\x00\x00\x00",
			"\x00\x00\x00\x01\x80\x00\x00\x00\x00\x00\x00\x00",
			"\x00\x00\x00\x00\xff\xff\xff\xff\xff\xff\xff\xff",
			"\x00\x00\x00\x01\xff\xff\xff\xff\xff\xff\xff\xff",
		} {
			l := slices.Repeat([]string{textOfNumber(-7)}, 6)
			l[i] = wrong
			bad := ahead + strings.Join(l, "")
			noOps(t, api.ErrText, textOfInt(1)+bad)
			noOps(t, api.ErrText, textOfInt(2)+textOfOp(wholeOp())+bad)
			noOps(t, api.ErrText, textOfInt(2)+bad+textOfOp(wholeOp()))
		}
	}
}

// P120: bytes that are none, in each place.
func TestNoBytesOfOps(t *testing.T) {
	for i := range 3 {
		for _, wrong := range []string{"\x00\x00\x00\x01a\x00\x00\x01", "\x00\x00\x00\x01a\x01\x00\x00", "\x00\x00\x00\x03abcd", "\x00\x00\x00\x05abcd", "\x7f\xff\xff\xffabcd", "\xff\xff\xff\xffabcd", textOfBytes(strings.Repeat("x", api.MaxText+1))} {
			l := slices.Repeat([]string{textOfBytes("ok")}, 3)
			l[i] = wrong
			noOps(t, api.ErrText, textOfInt(1)+strings.Join(l, "")+textOfNumbers(1, 2, 3, 4, 5, 6))
		}
	}
}

// P120: more than MaxOps ops are ErrBound, but only if they are a text; P3: that it is none is named first.
func TestReadTooManyOps(t *testing.T) {
	for _, n := range []int{api.MaxOps + 1, api.MaxOps + 2, 40, 200} {
		l := make([]op, n)
		noOps(t, api.ErrBound, textOfOps(l...))
		for i := range l {
			l[i] = wholeOp()
		}
		s := textOfOps(l...)
		noOps(t, api.ErrBound, s)
		noOps(t, api.ErrText, s[:len(s)-1])
		noOps(t, api.ErrText, s+"\x00\x00\x00\x00")
		noOps(t, api.ErrText, s[:len(s)-12]+"\x00\x00\x00\x01\x00\x00\x00\x00\x00\x00\x00\x00")
		noOps(t, api.ErrText, textOfInt(n+1)+s[4:])
		noOps(t, api.ErrText, textOfInt(n-1)+s[4:])
	}
}
