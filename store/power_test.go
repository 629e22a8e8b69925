package store_test

import (
	"testing"

	"pigeonholes/api"
	"pigeonholes/disk"
	"pigeonholes/store"
)

// Compounds that a store is asked, one behind the other.
var asked = [][]op{
	{root, file("a"), write(0, "abc", state{})},
	{{Kind: "client", Name: "ann"}, {Kind: "confirm", Client: 1, A: 1}},
	{root, dir("d"), file("b"), write(300, noise(1, 200), state{})},
	{root, lookup("a"), openBy(1, 1, 0, 3), write(0, noise(2, 700), state{ID: 1, Seq: 1}), root, remove("a")},
	{root, {Kind: "list", B: 9}},
	{{Kind: "client", Name: "bob"}, {Kind: "confirm", Client: 2, A: 2}, root, lookup("d"), lookup("b"), resize(1, state{})},
	{{Kind: "close", Client: 1, B: 1, A: 1, State: state{ID: 1, Seq: 1}}, root, file("a"), write(9, "xyz", state{})},
}

// told is what lasts: a tree, and which names are known.
type told struct {
	tree     string
	ann, bob bool
}

// choices of what is kept of so many writes that wait: all there are, or, of many, each alone, each but one, and some.
func choices(waiting int) [][]bool {
	var l [][]bool
	take := func(is func(k int) bool) {
		keep := make([]bool, waiting)
		for k := range keep {
			keep[k] = is(k)
		}
		l = append(l, keep)
	}
	if waiting <= 5 {
		for i := range 1 << waiting {
			take(func(k int) bool { return i>>k&1 == 1 })
		}
		return l
	}
	take(func(int) bool { return false })
	take(func(int) bool { return true })
	for i := range waiting {
		take(func(k int) bool { return k == i })
		take(func(k int) bool { return k != i })
		take(func(k int) bool { return k < i })
		take(func(k int) bool { return k*k%7 < i%7 })
	}
	return l
}

// lasts on a disk: what Open tells of it.
func lasts(t *testing.T, d *disk.Disk) told {
	t.Helper()
	return told{tree: snapshot(open(t, d.Copy(), 30)), ann: isKnown(t, d, "ann"), bob: isKnown(t, d, "bob")}
}

// before and behind each compound, where no power goes.
func states(t *testing.T) []told {
	t.Helper()
	d, s := begin(t, 300, 30)
	l := []told{lasts(t, d)}
	for _, x := range asked {
		well(t, s, x...)
		l = append(l, lasts(t, d))
	}
	return l
}

// untilPowerGoes does what is asked, on a disk whose power lasts for so many acts: how many compounds were answered.
func untilPowerGoes(t *testing.T, d *disk.Disk, s *store.Store, acts int) int {
	t.Helper()
	checkErr(t, d.Fail(acts), nil)
	for i, x := range asked {
		r, err := s.Compound(x)
		if err == nil {
			continue
		}
		checkErr(t, err, api.ErrPower)
		if len(r) != 0 {
			t.Fatalf("%+v", r)
		}
		fallen(t, s, api.ErrPower)
		return i
	}
	return len(asked)
}

// P183: wherever the power goes, and whatever is kept of what waits, what was answered is there behind Open; what was not, all of it, or none: both come about. The store goes on from there.
func TestWhereverPowerGoes(t *testing.T) {
	want := states(t)
	none, all := 0, 0
	for acts := 0; ; acts++ {
		d, s := begin(t, 300, 30)
		n := untilPowerGoes(t, d, s, acts)
		if n == len(asked) {
			break
		}
		for _, keep := range choices(d.Waiting()) {
			x := d.Copy()
			x.Crash(keep)
			switch lasts(t, x) {
			case want[n]:
				none++
			case want[n+1]:
				all++
			default:
				t.Fatalf("%d acts, %v: %+v; want %+v, or %+v", acts, keep, lasts(t, x), want[n], want[n+1])
			}
			o := open(t, x, 30)
			tick(t, o, 60)
			well(t, o, root, file("on"), write(0, "abc", state{}))
			if lasting(t, x) != snapshot(o) {
				t.Fatal("it does not go on")
			}
		}
		fallen(t, s, api.ErrPower)
	}
	if none < 100 || all < 6 {
		t.Errorf("%d times none, %d times all", none, all)
	}
}

// P183: it is so too where the power goes again behind Open.
func TestPowerGoesTwice(t *testing.T) {
	for acts := 0; ; acts += 3 {
		first, s := begin(t, 300, 30)
		if untilPowerGoes(t, first, s, acts) == len(asked) {
			break
		}
		for _, keep := range choices(first.Waiting()) {
			for more := range 9 {
				d := first.Copy()
				d.Crash(keep)
				checkErr(t, d.Fail(more), nil)
				s := open(t, d, 30)
				before := snapshot(s)
				_, err := s.Compound([]op{root, file("new")})
				after := snapshot(s)
				last := choices(d.Waiting())
				for _, keep := range last {
					x := d.Copy()
					x.Crash(keep)
					if got := snapshot(open(t, x, 30)); got != after && (err == nil || got != before) {
						t.Fatalf("%d acts, and %d: %q", acts, more, got)
					}
				}
			}
		}
	}
}

// P183: to format takes the place of what was there all at once: it is the old store, or the new one, and on a blank disk the new one, or none.
func TestPowerGoesInFormat(t *testing.T) {
	old := blank(t, 100)
	s := format(t, old, 30)
	join(t, s, "ann")
	well(t, s, root, file("a"))
	there := snapshot(s)
	for _, first := range []*disk.Disk{blank(t, 100), old} {
		for acts := 0; ; acts++ {
			d := first.Copy()
			checkErr(t, d.Fail(acts), nil)
			s, err := store.Format(d, 20)
			if err == nil {
				break
			}
			checkErr(t, err, api.ErrPower)
			if s != nil {
				t.Fatal("a store")
			}
			for _, keep := range choices(d.Waiting()) {
				x := d.Copy()
				x.Crash(keep)
				o, err := store.Open(x, 20)
				switch {
				case err == nil && (snapshot(o) == newTree(t) && !isKnown(t, x, "ann") || first == old && snapshot(o) == there && isKnown(t, x, "ann")):
				case err == api.ErrText && first != old:
				default:
					t.Fatalf("%d acts, %v: %v", acts, keep, err)
				}
				format(t, x, 20)
				if lasting(t, x) != newTree(t) {
					t.Fatal(lasting(t, x))
				}
			}
		}
	}
}

// P181: a store whose power went has the answer ErrPower also where the power is there again; opened anew it goes on.
func TestBehindPower(t *testing.T) {
	d, s := begin(t, 300, 30)
	well(t, s, root, file("a"))
	checkErr(t, d.Fail(0), nil)
	_, err := s.Compound([]op{root, file("b")})
	checkErr(t, err, api.ErrPower)
	fallen(t, s, api.ErrPower)
	d.Crash(nil)
	before := contents(t, d)
	fallen(t, s, api.ErrPower)
	for i, c := range contents(t, d) {
		if c != before[i] {
			t.Fatal("something was written")
		}
	}
	o := open(t, d, 30)
	if n := o.Server().Tree().Nodes(); n != 2 {
		t.Error(n)
	}
	well(t, o, root, file("b"))
	fallen(t, s, api.ErrPower)
	if lasting(t, d) != snapshot(o) {
		t.Error(lasting(t, d))
	}
}

// P180: to open needs no power.
func TestOpenWithoutPower(t *testing.T) {
	d, s := begin(t, 300, 30)
	well(t, s, root, file("a"))
	checkErr(t, d.Fail(0), nil)
	o := open(t, d, 30)
	if snapshot(o) != snapshot(s) {
		t.Error(snapshot(o))
	}
	_, err := o.Compound([]op{root, file("b")})
	checkErr(t, err, api.ErrPower)
	fallen(t, o, api.ErrPower)
}
