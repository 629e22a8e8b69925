package xdr_test

import (
	"encoding/binary"
	"math"
	"math/rand"
	"strings"
	"testing"

	"pigeonholes/api"
	"pigeonholes/xdr"
)

// item is what one call writes, and what reads it.
type item struct {
	put  write
	get  read
	want any
}

func intItem(n int) item      { return item{putInt(n), getInt, n} }
func longItem(n int) item     { return item{putLong(n), getLong, n} }
func boolItem(b bool) item    { return item{putBool(b), getBool, b} }
func bytesItem(s string) item { return item{putBytes(s), getBytes(len(s)), s} }

// anyItem draws one; small numbers and the edges come often.
func anyItem(rnd *rand.Rand) item {
	n := rnd.Intn(math.MaxInt) >> rnd.Intn(63)
	switch rnd.Intn(4) {
	case 0:
		return intItem(n & (1<<32 - 1))
	case 1:
		return longItem(n)
	case 2:
		return boolItem(n%2 == 1)
	}
	b := make([]byte, rnd.Intn(1<<rnd.Intn(9)))
	rnd.Read(b)
	return bytesItem(string(b))
}

// P12: what is written is read, whatever it is, until a text is full.
func TestWhatIsWrittenIsRead(t *testing.T) {
	rnd := rand.New(rand.NewSource(12))
	for range 300 {
		w := &xdr.Writer{}
		var l []item
		for {
			x := anyItem(rnd)
			if err := x.put(w); err == api.ErrFull {
				break
			} else if err != nil {
				t.Fatal(x.want, err)
			}
			l = append(l, x)
		}
		checkRead(t, w.Text(), l)
	}
}

// P12: the edges of each kind.
func TestEdgesAreRead(t *testing.T) {
	l := []item{boolItem(false), boolItem(true)}
	for i := range 63 {
		l = append(l, longItem(1<<i-1), longItem(1<<i))
	}
	l = append(l, longItem(math.MaxInt))
	for i := range 32 {
		l = append(l, intItem(1<<i-1), intItem(1<<i))
	}
	l = append(l, intItem(1<<32-1))
	for n := range 20 {
		l = append(l, bytesItem(strings.Repeat("\x00", n)), bytesItem(strings.Repeat("\xff", n)))
	}
	w := &xdr.Writer{}
	for _, x := range l {
		if err := x.put(w); err != nil {
			t.Fatal(x.want, err)
		}
	}
	checkRead(t, w.Text(), l)
	for n := range api.MaxText - 3 {
		x := bytesItem(strings.Repeat("b", n))
		w := &xdr.Writer{}
		if err := x.put(w); err != nil {
			t.Fatal(n, err)
		}
		checkRead(t, w.Text(), []item{x})
	}
}

func checkRead(t *testing.T, text string, l []item) {
	t.Helper()
	if len(text)%4 != 0 || len(text) > api.MaxText {
		t.Fatalf("a text of %d bytes", len(text))
	}
	r := xdr.NewReader(text)
	for i, x := range l {
		if got, err := x.get(r); got != x.want || err != nil {
			t.Fatalf("%d of %d: %v, %v; want %v", i, len(l), got, err, x.want)
		}
	}
	if err := r.End(); err != nil {
		t.Fatal(err)
	}
}

// FuzzReader: any calls on any text (P1) answer what the words of P11 say, and what was read can be written again as it was.
func FuzzReader(f *testing.F) {
	f.Add("", []byte{0, 1, 2, 3, 4})
	f.Add("\x00\x00\x00\x02ab\x00\x00", []byte{2, 1, 3, 4})
	f.Add("\x00\x00\x00\x01\x7f\xff\xff\xff\xff\xff\xff\xff", []byte{2, 1, 0})
	f.Add("\xff\xff\xff\xff\xff\xff\xff\xff", []byte{3, 1, 2, 0, 0, 0})
	f.Fuzz(checkReads)
}

// P1, P11: as the fuzzer does, with texts that are often right.
func TestReaderOfAnyText(t *testing.T) {
	rnd := rand.New(rand.NewSource(11))
	signs := []byte{0, 0, 0, 0, 0, 1, 1, 2, 3, 4, 5, 0x7f, 0x80, 0xff}
	for range 20000 {
		text, calls := make([]byte, rnd.Intn(40)), make([]byte, 12)
		for i := range text {
			text[i] = signs[rnd.Intn(len(signs))]
			if i%4 < 3 && rnd.Intn(3) > 0 {
				text[i] = 0
			}
		}
		rnd.Read(calls)
		checkReads(t, string(text), calls)
	}
}

func checkReads(t *testing.T, text string, calls []byte) {
	r, at := xdr.NewReader(text), 0
	for _, c := range calls {
		most := int(int8(c)) / 5
		get, again := getBytes(most), func(v any) write { return putBytes(v.(string)) }
		var zero any = ""
		switch c % 4 {
		case 0:
			get, zero, again = getInt, 0, func(v any) write { return putInt(v.(int)) }
		case 1:
			get, zero, again = getLong, 0, func(v any) write { return putLong(v.(int)) }
		case 2:
			get, zero, again = getBool, false, func(v any) write { return putBool(v.(bool)) }
		}
		size, ok := expect(text[at:], int(c%4), most)
		v, err := get(r)
		if !ok {
			if err != api.ErrText || v != zero {
				t.Fatalf("%q at %d, call %d: %v, %v", text, at, c, v, err)
			}
		} else {
			w := &xdr.Writer{}
			if err != nil || size <= api.MaxText && (again(v)(w) != nil || w.Text() != text[at:at+size]) {
				t.Fatalf("%q at %d, call %d: %v, %v", text, at, c, v, err)
			}
			at += size
		}
		if (r.End() == nil) != (at == len(text)) {
			t.Fatalf("%q at %d, call %d: end %v", text, at, c, r.End())
		}
	}
}

// expect tells, by the words of P11 alone, how many bytes a call reads, or that it has an error.
func expect(s string, kind, most int) (size int, ok bool) {
	b := []byte(s)
	if kind == 1 {
		return 8, len(b) >= 8 && binary.BigEndian.Uint64(b) <= math.MaxInt64
	}
	if len(b) < 4 {
		return 0, false
	}
	n := int64(binary.BigEndian.Uint32(b))
	switch kind {
	case 0:
		return 4, true
	case 2:
		return 4, n <= 1
	}
	if n > int64(most) || n > int64(len(b)-4) {
		return 0, false
	}
	size = 4 + int(n)
	for ; size%4 != 0; size++ {
		if size >= len(b) || b[size] != 0 {
			return 0, false
		}
	}
	return size, true
}
