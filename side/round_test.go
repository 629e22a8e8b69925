package side_test

import (
	"math/rand"
	"runtime"
	"testing"

	"pigeonholes/api"
	"pigeonholes/side"
)

// compareDecode with what must be, and Each, who takes so many.
func compareDecode(t *testing.T, l []string, workers, most int) error {
	t.Helper()
	want, wantErr := decoded(l, workers)
	got, err := side.Decode(l, workers)
	if !sameOps(got, want) {
		t.Fatalf("by %d: %+v; want %+v", workers, got, want)
	}
	sameErr(t, err, wantErr)
	x := &taker{most: most}
	sameErr(t, side.Each(l, workers, x), wantErr)
	takes(t, x, want[:min(max(most, 1), len(want))])
	return wantErr
}

// comparePlays with what must be.
func comparePlays(t *testing.T, l [][]op, most, workers int) error {
	t.Helper()
	want, wantErr := played(l, most, workers)
	got, err := side.Plays(l, most, workers)
	if !sameReplies(got, want) {
		t.Fatalf("%d by %d: %+v; want %+v", most, workers, got, want)
	}
	sameErr(t, err, wantErr)
	return wantErr
}

// P192: by however many, and on however many processors, it is the same as one behind the other.
func TestAsOneBehindTheOther(t *testing.T) {
	defer runtime.GOMAXPROCS(runtime.GOMAXPROCS(0))
	rnd := rand.New(rand.NewSource(192))
	good, bad := 0, 0
	for i := range 60 {
		runtime.GOMAXPROCS(1 + i%4)
		var texts []string
		var compounds [][]op
		for range rnd.Intn(101) {
			texts = append(texts, anyText(t, rnd))
			compounds = append(compounds, anyCompound(rnd))
		}
		most := 1 + rnd.Intn(6)
		for workers := 1; workers <= api.Workers; workers++ {
			for _, err := range []error{compareDecode(t, texts, workers, rnd.Intn(110)), comparePlays(t, compounds, most, workers)} {
				if err == nil {
					good++
				} else {
					bad++
				}
			}
		}
	}
	if good < 300 || bad < 300 {
		t.Errorf("%d went well, %d did not", good, bad)
	}
}

// P1, P190, P191: any numbers, near their bounds and beyond them.
func TestAnyNumbers(t *testing.T) {
	rnd := rand.New(rand.NewSource(190))
	for range 2000 {
		count, workers, most := 98+rnd.Intn(5), rnd.Intn(20)-1, []int{-1, 0, 1, 2, 299, 300, 301}[rnd.Intn(7)]
		texts, compounds := make([]string, count), make([][]op, count)
		for i := range texts {
			texts[i] = textOf(t)
			compounds[i] = []op{{Kind: "root"}}
		}
		if rnd.Intn(2) == 0 {
			texts[rnd.Intn(count)] = ""
			compounds[rnd.Intn(count)] = make([]op, api.MaxOps+1)
		}
		compareDecode(t, texts, workers, rnd.Intn(110))
		comparePlays(t, compounds, most, workers)
	}
}

// FuzzSide takes three bytes for how many work, how many nodes there are, and how many are taken; the others are cut into texts, each behind a byte of how long it is, and what can be read of them is done.
func FuzzSide(f *testing.F) {
	f.Add("")
	f.Add("\x01\x05\x02")
	f.Add("\x03\x05\x02\x04\x00\x00\x00\x00\x00\x04\x00\x00\x00\x00")
	f.Add("\x10\x01\x01\x04\x00\x00\x00\x00\x04\x00\x00\x00\x11\x01x")
	f.Add("\x00\x02\x01\x01x")
	f.Fuzz(func(t *testing.T, s string) {
		if len(s) < 3 {
			return
		}
		workers, nodes, most := int(int8(s[0])), int(int8(s[1])), int(s[2])
		var texts []string
		var compounds [][]op
		for s = s[3:]; s != ""; {
			size := min(int(s[0]), len(s)-1)
			texts = append(texts, s[1:1+size])
			s = s[1+size:]
		}
		for _, text := range texts {
			if l, err := decoded([]string{text}, 1); err == nil {
				compounds = append(compounds, l...)
			}
		}
		compareDecode(t, texts, workers, most)
		comparePlays(t, compounds, nodes, workers)
	})
}
