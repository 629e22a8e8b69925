package wire_test

import (
	"math"
	"slices"
	"strings"
	"testing"

	"pigeonholes/api"
	"pigeonholes/wire"
)

// P120: what stands in a text of replies, written out.
func TestTextOfReplies(t *testing.T) {
	const (
		zero  = "\x00\x00\x00\x00\x00\x00\x00\x00\x00\x00\x00\x00"
		first = "\x00\x00\x00\x01\x01\x02\x03\x04\x05\x06\x07\x08" + "\x00\x00\x00\x05texts\x00\x00\x00" +
			"\x00\x00\x00\x00\x11\x12\x13\x14\x15\x16\x17\x18" + "\x00\x00\x00\x01\x21\x22\x23\x24\x25\x26\x27\x28" +
			"\x00\x00\x00\x00\x31\x32\x33\x34\x35\x36\x37\x38" + "\x00\x00\x00\x01\x41\x42\x43\x44\x45\x46\x47\x48" +
			"\x00\x00\x00\x01" +
			"\x00\x00\x00\x02en\x00\x00" + "\x00\x00\x00\x01\x51\x52\x53\x54\x55\x56\x57\x58" + "\x00\x00\x00\x00\x61\x62\x63\x64\x65\x66\x67\x68" +
			"\x00\x00\x00\x01\x71\x72\x73\x74\x75\x76\x77\x78" + "\x00\x00\x00\x01"
		second = "\x00\x00\x00\x00\x00\x00\x00\x00\x00\x00\x00\x0b" + "\x00\x00\x00\x00" + zero + zero + zero + zero +
			"\x00\x00\x00\x02" +
			"\x00\x00\x00\x00" + zero + zero +
			"\x00\x00\x00\x01x\x00\x00\x00" + zero + "\x00\x00\x00\x00\x00\x00\x00\x00\x00\x00\x00\x09" +
			"\x00\x00\x00\x00\x7f\xff\xff\xff\xff\xff\xff\xff" + "\x00\x00\x00\x00"
	)
	other := reply{Code: 11, L: []entry{{}, {Name: "x", H: api.Handle{Gen: 9}}}, N: math.MaxInt}
	for _, c := range []struct {
		l    []reply
		want string
	}{
		{nil, "\x00\x00\x00\x00"},
		{[]reply{}, "\x00\x00\x00\x00"},
		{[]reply{{}}, "\x00\x00\x00\x01" + strings.Repeat("\x00", empty)},
		{[]reply{{L: []entry{}}}, "\x00\x00\x00\x01" + strings.Repeat("\x00", empty)},
		{[]reply{{End: true}}, "\x00\x00\x00\x01" + strings.Repeat("\x00", empty-1) + "\x01"},
		{[]reply{wholeReply()}, "\x00\x00\x00\x01" + first},
		{[]reply{wholeReply(), other}, "\x00\x00\x00\x02" + first + second},
		{[]reply{other, wholeReply(), other}, "\x00\x00\x00\x03" + second + first + second},
	} {
		if s, err := wire.Replies(c.l); s != c.want || err != nil {
			t.Errorf("%+v: %q, %v; want %q", c.l, s, err, c.want)
		}
		if l, err := wire.ReadReplies(c.want); !sameReplies(l, c.l) || err != nil {
			t.Errorf("%q: %+v, %v; want %+v", c.want, l, err, c.l)
		}
	}
}

// P120: each number may be any but the least; that one is ErrBound wherever it stands.
func TestNumbersOfReplies(t *testing.T) {
	for i := range replyNumbers(new(wholeReply())) {
		for _, n := range edges {
			r, zero := wholeReply(), reply{L: []entry{{}}}
			*replyNumbers(&r)[i], *replyNumbers(&zero)[i] = n, n
			checkReplies(t, r)
			checkReplies(t, zero, r)
		}
		r := wholeReply()
		*replyNumbers(&r)[i] = math.MinInt
		repliesFail(t, api.ErrBound, r)
		repliesFail(t, api.ErrBound, wholeReply(), reply{}, r)
		*replyNumbers(&r)[i] = math.MinInt + 1
		checkReplies(t, wholeReply(), reply{}, r)
	}
	repliesFail(t, api.ErrBound, reply{L: []entry{{Name: "a"}, {Name: "b", H: api.Handle{Gen: math.MinInt}}}})
}

// P120: texts in a reply are any bytes.
func TestTextsInReplies(t *testing.T) {
	for _, s := range []string{"", "a", "ab", "abc", "abcd", "abcde", "\x00", "\x00\x00\x00\x00\x00", "\xff\xfe\x80", "ä/..", strings.Repeat("long", 300)} {
		checkReplies(t, reply{Text: s}, reply{L: []entry{{Name: s}, {}}}, reply{L: []entry{{}, {Name: s}}})
	}
}

// P120: MaxOps replies are as many as can be written; one more is ErrBound, ahead of all else. Entries have no bound but the text's.
func TestTooManyReplies(t *testing.T) {
	for n := range api.MaxOps + 1 {
		checkReplies(t, make([]reply, n)...)
	}
	long := make([]reply, api.MaxOps+1)
	long[0].Text = strings.Repeat("x", api.MaxText)
	least := make([]reply, api.MaxOps+1)
	least[api.MaxOps].N = math.MinInt
	for _, l := range [][]reply{make([]reply, api.MaxOps+1), make([]reply, 1000), long, least} {
		repliesFail(t, api.ErrBound, l...)
	}
	most := (api.MaxText - 4 - empty) / len(textOfEntry(entry{}))
	for n := range most + 1 {
		checkReplies(t, reply{L: make([]entry, n)})
	}
	repliesFail(t, api.ErrFull, reply{L: make([]entry, most+1)})
	repliesFail(t, api.ErrFull, reply{L: make([]entry, 100000)})
}

// P120: a text of MaxText bytes is written; one that would have more is ErrFull.
func TestFullReplies(t *testing.T) {
	room := api.MaxText - 4 - empty
	name := room - len(textOfEntry(entry{}))
	for _, less := range []int{0, 1, 3, 4} {
		checkReplies(t, reply{Text: strings.Repeat("x", room-less), Code: -1, End: true})
		checkReplies(t, reply{L: []entry{{Name: strings.Repeat("x", name-less)}}, N: math.MaxInt, End: true})
	}
	if n := len(textOfReplies(reply{Text: strings.Repeat("x", room)})); n != api.MaxText {
		t.Fatal(n)
	}
	for _, more := range []int{1, 4, 5, 12, 16, 17, 64, 68, 72, 76, 80, 1 << 20} {
		repliesFail(t, api.ErrFull, reply{Text: strings.Repeat("x", room+more)})
		repliesFail(t, api.ErrFull, reply{L: []entry{{Name: strings.Repeat("x", name+more)}}})
		repliesFail(t, api.ErrFull, reply{}, reply{Text: strings.Repeat("x", room+more-empty)}, reply{})
	}
	l := make([]reply, api.MaxOps) // none of them is long
	for i := range l {
		l[i].Text = strings.Repeat("y", 160)
	}
	l[0].Text += strings.Repeat("y", api.MaxText-len(textOfReplies(l...)))
	checkReplies(t, l...)
	l[0].Text += "z"
	repliesFail(t, api.ErrFull, l...)
}

// P120: of ErrFull and ErrBound that is told to which one comes first; a least int is come to behind its Bool.
func TestWhichErrorOfRepliesIsFirst(t *testing.T) {
	long := strings.Repeat("x", api.MaxText)
	repliesFail(t, api.ErrBound, reply{Code: math.MinInt, Text: long})
	repliesFail(t, api.ErrFull, reply{Text: long, H: api.Handle{Node: math.MinInt}})
	repliesFail(t, api.ErrFull, reply{Text: long}, reply{Code: math.MinInt})
	repliesFail(t, api.ErrBound, reply{N: math.MinInt}, reply{Text: long})
	repliesFail(t, api.ErrBound, reply{State: api.State{Seq: math.MinInt}, L: []entry{{Name: long}}})
	repliesFail(t, api.ErrFull, reply{L: []entry{{Name: long}}, N: math.MinInt})
	repliesFail(t, api.ErrFull, reply{L: make([]entry, 1000), N: math.MinInt})
	// Of all numbers behind Text: how many bytes of the reply stand ahead, beside Text's own.
	for i, ahead := range map[int]int{1: 16, 2: 28, 3: 40, 4: 52, 5: 72, 6: 84, 7: 96} {
		text := api.MaxText - 4 - ahead - 4 // with so many, the Bool is the last that has room
		for back, want := range map[int]error{-4: api.ErrFull, 0: api.ErrBound, 4: api.ErrBound} {
			r := reply{Text: strings.Repeat("x", text-back), L: make([]entry, 1)}
			*replyNumbers(&r)[i] = math.MinInt
			repliesFail(t, want, r)
			*replyNumbers(&r)[i] = -math.MaxInt
			repliesFail(t, api.ErrFull, r)
		}
	}
}

// P120: what ends too early, or has something behind it, is no text.
func TestRepliesThatAreCut(t *testing.T) {
	for _, l := range [][]reply{nil, {{}}, {wholeReply()}, {{}, wholeReply(), {Text: "\x00\x00\x00\x00", L: make([]entry, 3)}}, make([]reply, api.MaxOps), make([]reply, api.MaxOps+1)} {
		s := textOfReplies(l...)
		for n := range len(s) {
			noReplies(t, s[:n])
		}
		for _, more := range []string{"\x00", "x", "\x00\x00\x00\x00", "\x00\x00\x00\x01", textOfReply(reply{}), s} {
			noReplies(t, s+more)
		}
		for _, many := range []int{len(l) + 1, len(l) - 1, len(l) + 1<<8, len(l) + 1<<24, 1<<31 - 1, 1 << 31, 1<<32 - 1} {
			if many >= 0 {
				noReplies(t, textOfInt(many)+s[4:])
			}
		}
	}
}

// piecesOfReply that has an entry: what can be wrong in it, one behind the other.
func piecesOfReply() (l []string, numbers, texts, bools, counts []int) {
	n := textOfNumber(-7)
	l = []string{n, textOfBytes("text"), n, n, n, n, textOfInt(1), textOfBytes("name"), n, n, n, textOfBool(true)}
	return l, []int{0, 2, 3, 4, 5, 8, 9, 10}, []int{1, 7}, []int{11}, []int{6}
}

// P120: what is none, in each place of a reply.
func TestNoPiecesOfReplies(t *testing.T) {
	_, numbers, texts, bools, counts := piecesOfReply()
	for _, c := range []struct {
		at    []int
		wrong []string
	}{
		{numbers, []string{
			"\x00\x00\x00\x01\x00\x00\x00\x00\x00\x00\x00\x00", "\x00\x00\x00\x02\x00\x00\x00\x00\x00\x00\x00\x01", "\xff\xff\xff\xff\x00\x00\x00\x00\x00\x00\x00\x01",
			"\x00\x00\x00\x00\x80\x00\x00\x00\x00\x00\x00\x00", "\x00\x00\x00\x01\x80\x00\x00\x00\x00\x00\x00\x00", "\x00\x00\x00\x01\xff\xff\xff\xff\xff\xff\xff\xff",
		}},
		{texts, []string{
			"\x00\x00\x00\x01a\x00\x00\x01", "\x00\x00\x00\x01a\x01\x00\x00", "\x00\x00\x00\x03abcd", "\x00\x00\x00\x05abcd", "\xff\xff\xff\xffabcd",
			textOfBytes(strings.Repeat("x", api.MaxText+1)),
		}},
		{bools, []string{"\x00\x00\x00\x02", "\x01\x00\x00\x00", "\xff\xff\xff\xff"}},
		{counts, []string{"\x00\x00\x00\x00", "\x00\x00\x00\x02", "\x00\x00\x00\x03", "\x01\x00\x00\x01", "\x80\x00\x00\x01", "\xff\xff\xff\xff"}},
	} {
		for _, i := range c.at {
			for _, wrong := range c.wrong {
				l, _, _, _, _ := piecesOfReply()
				l[i] = wrong
				bad := strings.Join(l, "")
				noReplies(t, textOfInt(1)+bad)
				noReplies(t, textOfInt(2)+textOfReply(wholeReply())+bad)
				noReplies(t, textOfInt(2)+bad+textOfReply(wholeReply()))
			}
		}
	}
	l, _, _, _, _ := piecesOfReply()
	if m, err := wire.ReadReplies(textOfInt(1) + strings.Join(l, "")); len(m) != 1 || err != nil {
		t.Error(m, err) // or nothing was told by them
	}
}

// P120: to read replies has no error but ErrText: more than MaxOps are read.
func TestReadManyReplies(t *testing.T) {
	for _, n := range []int{api.MaxOps + 1, 40, 200} {
		want := slices.Repeat([]reply{wholeReply()}, n)
		s := textOfReplies(want...)
		if l, err := wire.ReadReplies(s); !sameReplies(l, want) || err != nil {
			t.Errorf("%d: %d, %v", n, len(l), err)
		}
		noReplies(t, s[:len(s)-1])
	}
}
