package side_test

import (
	"math"
	"reflect"
	"slices"
	"strings"
	"sync"
	"testing"

	"pigeonholes/api"
	"pigeonholes/plain"
	"pigeonholes/side"
)

// P190: of each text what ReadOps tells, in the order of the texts, for each number of workers and of texts.
func TestDecode(t *testing.T) {
	for workers := 1; workers <= api.Workers; workers++ {
		for _, count := range []int{0, 1, 2, 3, 15, 16, 17, 18, 99, 100} {
			want := numbered(count)
			decodes(t, textsOf(t, want), workers, want)
		}
		decodes(t, nil, workers, nil)
		decodes(t, []string{}, workers, nil)
		one := []op{{Kind: "root"}, {Kind: "lookup", Name: "a", Text: "b", A: math.MaxInt, B: -math.MaxInt, C: 3, Client: 4, State: api.State{ID: 5, Seq: -6}}}
		text := textOf(t, one...)
		decodes(t, []string{text, textOf(t), text}, workers, [][]op{one, nil, one})
	}
}

// P190: workers that are none are ErrShape, ahead of all else; more than 100 texts are ErrBound, ahead of what is wrong in one.
func TestDecodeBounds(t *testing.T) {
	bad := make([]string, 101)
	for _, workers := range noWorkers {
		for _, l := range [][]string{nil, {textOf(t)}, {"x"}, bad} {
			got, err := side.Decode(l, workers)
			if len(got) != 0 {
				t.Errorf("%+v beside an error", got)
			}
			checkErr(t, err, api.ErrShape)
		}
	}
	for workers := 1; workers <= api.Workers; workers++ {
		for _, l := range [][]string{bad, textsOf(t, numbered(101)), make([]string, 10000)} {
			got, err := side.Decode(l, workers)
			if len(got) != 0 {
				t.Errorf("%+v beside an error", got)
			}
			checkErr(t, err, api.ErrBound)
		}
	}
}

// P190: an error has the place of the first text that has one, and is its own.
func TestDecodeFaults(t *testing.T) {
	good := textsOf(t, numbered(100))
	many := tooMany(t)
	bad := map[string]error{"": api.ErrText, "x": api.ErrText, textOf(t) + "\x00": api.ErrText, strings.Repeat("\x00", 100000): api.ErrText, many: api.ErrBound}
	for workers := 1; workers <= api.Workers; workers++ {
		for _, first := range []int{0, 1, 2, 15, 16, 17, 50, 98, 99} {
			for text, want := range bad {
				l := slices.Clone(good)
				l[first] = text
				for i := first + 1; i < len(l); i += 3 {
					l[i] = [2]string{"", many}[i%2]
				}
				got, err := side.Decode(l, workers)
				if len(got) != 0 {
					t.Errorf("%+v beside an error", got)
				}
				checkFault(t, err, first, want)
			}
		}
	}
}

// P190: each compound is done on a new server, of whom no other one knows, and no later call.
func TestPlays(t *testing.T) {
	make1 := []op{{Kind: "root"}, {Kind: "make", Name: "a", A: api.File}, {Kind: "handle"}}
	made := []reply{{}, {}, {H: api.Handle{Node: 1}}}
	find := []op{{Kind: "root"}, {Kind: "lookup", Name: "a"}, {Kind: "handle"}}
	found := []reply{{}, {Code: 5}}
	join := []op{{Kind: "client", Name: "ann"}, {Kind: "confirm", Client: 1, A: 1}, {Kind: "renew", Client: 1}}
	joined := []reply{{N: 1, State: api.State{ID: 1}}, {}, {}}
	list := []op{{Kind: "root"}, {Kind: "make", Name: "d", A: api.Dir}, {Kind: "root"}, {Kind: "list", B: 9}}
	listed := []reply{{}, {}, {}, {L: []api.Entry{{Name: "d", H: api.Handle{Node: 1}}}, N: 1}}
	for workers := 1; workers <= api.Workers; workers++ {
		plays(t, nil, 5, workers, nil)
		plays(t, [][]op{}, 5, workers, nil)
		plays(t, [][]op{nil}, 5, workers, [][]reply{nil})
		plays(t, [][]op{make1, find, make1, nil, join, list, {}, join, make1, list}, 5, workers, [][]reply{made, found, made, nil, joined, listed, nil, joined, made, listed})
		plays(t, slices.Repeat([][]op{make1}, 100), 2, workers, slices.Repeat([][]reply{made}, 100))
	}
}

// P190: of each as many nodes as asked for, from 1 to 300.
func TestPlaysMost(t *testing.T) {
	l := []op{{Kind: "root"}, {Kind: "make", Name: "a", A: api.Dir}, {Kind: "make", Name: "a", A: api.Dir}}
	for _, workers := range []int{1, 2, api.Workers} {
		plays(t, [][]op{l, l}, 1, workers, [][]reply{{{}, {Code: 9}}, {{}, {Code: 9}}})
		plays(t, [][]op{l, l}, 2, workers, [][]reply{{{}, {}, {Code: 9}}, {{}, {}, {Code: 9}}})
		plays(t, [][]op{l, l}, 3, workers, [][]reply{{{}, {}, {}}, {{}, {}, {}}})
		plays(t, [][]op{l, l}, api.MaxNodes, workers, [][]reply{{{}, {}, {}}, {{}, {}, {}}})
	}
}

// P190: ErrShape ahead of all else; then ErrBound, ahead of what is wrong in one.
func TestPlaysBounds(t *testing.T) {
	big := make([]op, api.MaxOps+1)
	checkNone := func(l [][]op, most, workers int, want error) {
		t.Helper()
		got, err := side.Plays(l, most, workers)
		if len(got) != 0 {
			t.Errorf("%+v beside an error", got)
		}
		checkErr(t, err, want)
	}
	noMost := []int{0, -1, api.MaxNodes + 1, math.MaxInt, math.MinInt}
	for _, workers := range noWorkers {
		for _, l := range [][][]op{nil, {nil}, {big}, make([][]op, 101)} {
			checkNone(l, 5, workers, api.ErrShape)
			for _, most := range noMost {
				checkNone(l, most, workers, api.ErrShape)
			}
		}
	}
	for workers := 1; workers <= api.Workers; workers++ {
		checkNone(make([][]op, 101), 5, workers, api.ErrBound)
		checkNone(slices.Repeat([][]op{big}, 101), 5, workers, api.ErrBound)
		for _, most := range noMost {
			for _, l := range [][][]op{nil, {nil}, {{{Kind: "root"}}}, {big}, {nil, big}, make([][]op, 101)} {
				checkNone(l, most, workers, api.ErrBound)
			}
		}
	}
}

// P190: an error has the place of the first compound that has one; an op's error is none, but told by its reply.
func TestPlaysFaults(t *testing.T) {
	for workers := 1; workers <= api.Workers; workers++ {
		for _, first := range []int{0, 1, 2, 15, 16, 17, 98, 99} {
			l := slices.Repeat([][]op{{{Kind: "root"}, {Kind: "what"}}}, 100)
			for i := first; i < len(l); i += 5 {
				l[i] = slices.Repeat([]op{{Kind: "root"}}, api.MaxOps+1+i%3)
			}
			got, err := side.Plays(l, 5, workers)
			if len(got) != 0 {
				t.Errorf("%+v beside an error", got)
			}
			checkFault(t, err, first, api.ErrBound)
		}
		plays(t, [][]op{{{Kind: "what"}, {Kind: "root"}}, make([]op, api.MaxOps)}, 5, workers, [][]reply{{{Code: 1}}, {{Code: 1}}})
	}
}

// P191: of each in order, with its place, until Take says false; that one is taken, too.
func TestEach(t *testing.T) {
	for workers := 1; workers <= api.Workers; workers++ {
		for _, count := range []int{0, 1, 2, 16, 17, 100} {
			want := numbered(count)
			l := textsOf(t, want)
			for _, most := range []int{1, 2, 3, 16, 17, 50, 99, 100, 101} {
				x := &taker{most: most}
				checkErr(t, side.Each(l, workers, x), nil)
				takes(t, x, want[:min(most, count)])
			}
		}
		x := &taker{most: 1}
		checkErr(t, side.Each(nil, workers, x), nil)
		takes(t, x, nil)
	}
}

// P191: Decode's errors, ahead of all Takes, also where no Take would have come to what is wrong.
func TestEachErrors(t *testing.T) {
	good, many := textsOf(t, numbered(101)), tooMany(t)
	for _, most := range []int{1, 1000} {
		x := &taker{most: most}
		for _, workers := range noWorkers {
			for _, l := range [][]string{nil, {textOf(t)}, {"x"}, make([]string, 101)} {
				checkErr(t, side.Each(l, workers, x), api.ErrShape)
			}
		}
		for workers := 1; workers <= api.Workers; workers++ {
			checkErr(t, side.Each(make([]string, 101), workers, x), api.ErrBound)
			checkErr(t, side.Each(good, workers, x), api.ErrBound)
			for _, at := range []int{0, 1, 50, 99} {
				l := slices.Clone(good[:100])
				l[at] = many
				for i := at + 1; i < len(l); i += 2 {
					l[i] = "x"
				}
				checkFault(t, side.Each(l, workers, x), at, api.ErrBound)
			}
		}
		takes(t, x, nil)
	}
}

// nester asks for each once more while it takes.
type nester struct {
	t    *testing.T
	l    []string
	want [][]op
	deep int
	took int
}

func (x *nester) Take(at int, l []op) bool {
	x.took++
	if x.deep > 0 {
		y := &nester{t: x.t, l: x.l, want: x.want, deep: x.deep - 1}
		checkErr(x.t, side.Each(x.l, 1+at, y), nil)
		if y.took != len(x.l) {
			x.t.Errorf("%d were taken", y.took)
		}
	}
	x.l[at] = "written over, when it was decoded"
	defer func() { x.l[at] = textOf(x.t, x.want[at]...) }()
	return sameOps([][]op{l}, x.want[at:at+1])
}

// P1, P191: a Taker may call itself, and write over the texts: they were read.
func TestEachWithin(t *testing.T) {
	want := numbered(5)
	x := &nester{t: t, l: textsOf(t, want), want: want, deep: 2}
	checkErr(t, side.Each(x.l, 3, x), nil)
	if x.took != 5 {
		t.Errorf("%d were taken", x.took)
	}
}

// P4: what is handed over is only read, what lies behind a list's length not even that, and lists of one answer do not see each other.
func TestListsAreOnlyRead(t *testing.T) {
	root := []op{{Kind: "root"}, {Kind: "make", Name: "a", A: api.File}, {Kind: "root"}, {Kind: "list", B: 9}, {Kind: "behind"}}
	text := textOf(t, root[:4]...)
	for workers := 1; workers <= api.Workers; workers++ {
		texts := []string{text, text, text, "behind", "behind"}
		got, err := side.Decode(texts[:3], workers)
		checkErr(t, err, nil)
		for i := range got {
			if !reflect.DeepEqual(got[i], root[:4]) {
				t.Fatalf("%d: %+v", i, got)
			}
			got[i] = append(got[i], op{Kind: "more"})
			for k := range got[i] {
				got[i][k].Kind = "other"
			}
		}
		compounds := [][]op{root[:4], root[:4], root[:2], root, make([]op, 17)}
		r, err := side.Plays(compounds[:3], 5, workers)
		checkErr(t, err, nil)
		for i, n := range []int{4, 4, 2} {
			if len(r[i]) != n {
				t.Fatalf("%d: %+v", i, r)
			}
		}
		r[0][3].L[0].Name = "other"
		if r[1][3].L[0].Name != "a" {
			t.Errorf("%+v", r)
		}
		_ = append(r[2], reply{Code: 7}, reply{Code: 7})
		if !slices.Equal(texts, []string{text, text, text, "behind", "behind"}) || len(compounds) != 5 || len(compounds[4]) != 17 || root[4].Kind != "behind" || root[1] != (op{Kind: "make", Name: "a", A: api.File}) {
			t.Errorf("%q, %+v", texts, compounds)
		}
	}
}

// P2: calls that are made side by side do not see each other.
func TestCallsSideBySide(t *testing.T) {
	want := numbered(30)
	texts := textsOf(t, want)
	replies, err := played(want, 5, 1)
	checkErr(t, err, nil)
	var wait sync.WaitGroup
	for i := range api.Workers {
		wait.Go(func() {
			for range 10 {
				l, err := side.Decode(texts, 1+i)
				if !sameOps(l, want) || err != nil {
					t.Errorf("%d: %+v, %v", i, l, err)
				}
				r, err := side.Plays(want, 5, 1+i)
				if !sameReplies(r, replies) || err != nil {
					t.Errorf("%d: %+v, %v", i, r, err)
				}
				x := &taker{most: i}
				if err := side.Each(texts, 1+i, x); err != nil || len(x.taken) != max(i, 1) {
					t.Errorf("%d: %+v, %v", i, x.taken, err)
				}
			}
		})
	}
	wait.Wait()
}

// What README.md says.
func TestReadme(t *testing.T) {
	text := textOf(t, op{Kind: "root"}, op{Kind: "make", Name: "a.txt", A: api.File}, op{Kind: "handle"})
	l, err := side.Decode([]string{text, text}, 4)
	checkErr(t, err, nil)
	r, err := side.Plays(l, 20, 4)
	if err != nil || len(r) != 2 || r[0][2].H != (api.Handle{Node: 1}) || r[1][2].H != (api.Handle{Node: 1}) {
		t.Errorf("%+v, %v", r, err)
	}
	x := &taker{most: 1}
	checkErr(t, side.Each([]string{text, text}, 4, x), nil)
	takes(t, x, l[:1])
	_, err = side.Decode([]string{text, "no compound"}, 4)
	if code, at := plain.Code(err); code != 1 || at != 1 {
		t.Errorf("%v, %d at %d", err, code, at)
	}
}
