package wire_test

import (
	"math/rand"
	"testing"

	"pigeonholes/api"
	"pigeonholes/wire"
)

// P121: ops that can be written are read again; those that cannot are ErrFull, and their text would be too long.
func TestWhatIsWrittenIsReadOfOps(t *testing.T) {
	rnd := rand.New(rand.NewSource(120))
	full := 0
	for range 5000 {
		l := make([]op, rnd.Intn(api.MaxOps+1))
		for i := range l {
			l[i] = anyOp(rnd)
		}
		if len(textOfOps(l...)) > api.MaxText {
			opsFail(t, api.ErrFull, l...)
			full++
			continue
		}
		checkOps(t, l...)
	}
	if full == 0 || full > 4000 {
		t.Error(full)
	}
}

// P121: and replies.
func TestWhatIsWrittenIsReadOfReplies(t *testing.T) {
	rnd := rand.New(rand.NewSource(121))
	full := 0
	for range 5000 {
		l := make([]reply, rnd.Intn(api.MaxOps+1))
		for i := range l {
			l[i] = anyReply(rnd)
		}
		if len(textOfReplies(l...)) > api.MaxText {
			repliesFail(t, api.ErrFull, l...)
			full++
			continue
		}
		checkReplies(t, l...)
	}
	if full == 0 || full > 4000 {
		t.Error(full)
	}
}

// P1, P120: as the fuzzers do, with texts that are often right: one that was written, with some bytes changed, cut out or doubled.
func TestAnyTexts(t *testing.T) {
	rnd := rand.New(rand.NewSource(122))
	for range 20000 {
		ops, replies := textOfOps(anyOp(rnd), anyOp(rnd)), textOfReplies(anyReply(rnd), anyReply(rnd))
		for range rnd.Intn(3) {
			ops, replies = spoiled(rnd, ops), spoiled(rnd, replies)
		}
		for _, s := range []string{ops, replies} {
			checkTextOfOps(t, s)
			checkTextOfReplies(t, s)
		}
	}
}

// spoiled text, at a place that is often the beginning of four bytes.
func spoiled(rnd *rand.Rand, s string) string {
	if len(s) < 8 {
		return s + "\x00\x00\x00\x00"
	}
	at := rnd.Intn(len(s)/4-1) * 4
	switch rnd.Intn(4) {
	case 0:
		return s[:at] + s[at+4:]
	case 1:
		return s[:at+4] + s[at:]
	case 2:
		at += rnd.Intn(4)
	default:
		at += 3
	}
	return s[:at] + string([]byte{byte(rnd.Intn(1 << rnd.Intn(9)))}) + s[at+1:]
}

// FuzzReadOps: any text (P1) is none, or just what its ops make again.
func FuzzReadOps(f *testing.F) {
	for _, l := range [][]op{nil, {{}}, {wholeOp()}, {wholeOp(), {Kind: "root"}}, make([]op, api.MaxOps), make([]op, api.MaxOps+1)} {
		f.Add(textOfOps(l...))
	}
	f.Add("")
	f.Add("\xff\xff\xff\xff")
	f.Fuzz(checkTextOfOps)
}

func checkTextOfOps(t *testing.T, s string) {
	many, ok := looked(s, (*looker).op)
	if !ok {
		noOps(t, api.ErrText, s)
		return
	}
	if many > api.MaxOps {
		noOps(t, api.ErrBound, s)
		return
	}
	l, err := wire.ReadOps(s)
	if err != nil || len(l) != many || textOfOps(l...) != s {
		t.Fatalf("%q: %+v, %v", s, l, err)
	}
	if len(s) <= api.MaxText {
		checkOps(t, l...)
	} else {
		opsFail(t, api.ErrFull, l...)
	}
}

// FuzzReadReplies: any text (P1) is none, or just what its replies make again.
func FuzzReadReplies(f *testing.F) {
	for _, l := range [][]reply{nil, {{}}, {wholeReply()}, {wholeReply(), {L: make([]entry, 3)}}, make([]reply, api.MaxOps), make([]reply, api.MaxOps+1)} {
		f.Add(textOfReplies(l...))
	}
	f.Add("")
	f.Add("\xff\xff\xff\xff")
	f.Fuzz(checkTextOfReplies)
}

func checkTextOfReplies(t *testing.T, s string) {
	many, ok := looked(s, (*looker).reply)
	if !ok {
		noReplies(t, s)
		return
	}
	l, err := wire.ReadReplies(s)
	if err != nil || len(l) != many || textOfReplies(l...) != s {
		t.Fatalf("%q: %+v, %v", s, l, err)
	}
	switch {
	case many > api.MaxOps:
		repliesFail(t, api.ErrBound, l...)
	case len(s) > api.MaxText:
		repliesFail(t, api.ErrFull, l...)
	default:
		checkReplies(t, l...)
	}
}
