package serve_test

import (
	"testing"

	"pigeonholes/api"
	"pigeonholes/serve"
)

// What README.md says of a compound.
func TestReadme(t *testing.T) {
	s := begin(t, 100)
	l, err := s.Compound([]serve.Op{
		{Kind: "client", Name: "ann", A: 1},
		{Kind: "confirm", Client: 1, A: 1},
		{Kind: "root"},
		{Kind: "make", Name: "a.txt", A: api.File},
		{Kind: "open", Client: 1, B: 7, A: 0, C: api.Read + api.Write + 4*api.Write},
		{Kind: "write", Text: "abc", State: api.State{ID: 1, Seq: 1}},
		{Kind: "lock", A: 0, B: 3, C: 2, State: api.State{ID: 1, Seq: 1}},
		{Kind: "read", A: 1, B: 9},
		{Kind: "write", Text: "x"},
	})
	want := []reply{{N: 1, State: state{ID: 1}}, {}, {}, {}, {State: state{ID: 1, Seq: 1}}, {}, {}, {Text: "bc", End: true}, {Code: 11}}
	if err != nil || len(l) != len(want) {
		t.Fatal(l, err)
	}
	for i := range l {
		if !same(l[i], want[i]) {
			t.Errorf("%d: %+v; want %+v", i, l[i], want[i])
		}
	}
	if len(s.Opens()) != 1 || len(s.Locks()) != 1 {
		t.Error(s.Opens(), s.Locks())
	}
	tick(t, s, 60)
	checkOpens(t, s)
	checkLocks(t, s)
}
