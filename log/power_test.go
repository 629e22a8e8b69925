package log_test

import (
	"slices"
	"strings"
	"testing"

	"pigeonholes/api"
	"pigeonholes/disk"
	"pigeonholes/log"
)

// step is one call: Add, Clear, Format or Open.
type step struct {
	how     string
	records []string
}

// take a step with a log, on its disk; Format and Open make another one.
func (s step) take(d *disk.Disk, l *log.Log) (*log.Log, error) {
	switch s.how {
	case "add":
		return l, l.Add(s.records)
	case "clear":
		return l, l.Clear(s.records)
	case "format":
		return log.Format(d)
	}
	l, _, err := log.Open(d)
	return l, err
}

// after the step, what counts.
func (s step) after(before []string) []string {
	switch s.how {
	case "add":
		return slices.Concat(before, s.records)
	case "open":
		return before
	}
	return s.records
}

// Ways that a log may go; each begins on a blank disk.
var ways = [][]step{
	{{"format", nil}, {"add", []string{"a"}}, {"add", []string{"b", text(70)}}, {"add", nil}, {"add", []string{"", "c"}}},
	{{"format", nil}, {"clear", []string{"a", text(50)}}, {"clear", []string{text(100)}}, {"clear", nil}, {"add", []string{"b"}}, {"clear", []string{"c"}}},
	{{"format", nil}, {"add", []string{text(150)}}, {"clear", []string{"a"}}, {"add", []string{text(80)}}, {"open", nil}, {"clear", []string{"b", "c"}}, {"add", []string{"d"}}},
	{{"format", nil}, {"add", []string{"a", text(60)}}, {"format", nil}, {"add", []string{"b"}}, {"clear", []string{"c", text(90)}}, {"format", nil}, {"format", nil}, {"open", nil}, {"add", []string{"d"}}},
}

// choices of what is kept of so many writes that wait: all there are.
func choices(waiting int) [][]bool {
	l := make([][]bool, 1<<waiting)
	for i := range l {
		for k := range waiting {
			l[i] = append(l[i], i>>k&1 == 1)
		}
	}
	return l
}

// told by a disk, also that there is no log.
func told(t *testing.T, d *disk.Disk) string {
	t.Helper()
	_, records, err := log.Open(d)
	if err != nil {
		checkErr(t, err, api.ErrText)
		return "none"
	}
	return spell(records)
}

// spell records, so that no two lists are alike.
func spell(records []string) string {
	var b strings.Builder
	for _, s := range records {
		b.WriteString("<" + strings.ReplaceAll(s, "<", "<<") + "> ")
	}
	return b.String()
}

// cut is where the power went: in a step, of which what counted before and after is told.
type cut struct {
	d             *disk.Disk
	before, after string
	records       []string // before
	log           *log.Log // in whose call it was, if it was in one's
}

// goes along a way, on a disk whose power lasts for so many acts; false: it lasted for all.
func goes(t *testing.T, way []step, sectors, acts int) (cut, bool) {
	t.Helper()
	d := blank(t, sectors)
	checkErr(t, d.Fail(acts), nil)
	var l *log.Log
	var records []string
	before := "none"
	for _, s := range way {
		next, err := s.take(d, l)
		after := s.after(records)
		if err != nil {
			checkErr(t, err, api.ErrPower)
			return cut{d, before, spell(after), records, next}, true
		}
		l, records, before = next, after, spell(after)
		if d.Waiting() != 0 || told(t, d) != before {
			t.Fatalf("%v: %d wait; %q", s, d.Waiting(), told(t, d))
		}
	}
	return cut{}, false
}

// cuts of a way: everywhere that the power can go.
func cuts(t *testing.T, way []step, sectors int) []cut {
	t.Helper()
	var l []cut
	for acts := 0; ; acts++ {
		c, is := goes(t, way, sectors, acts)
		if !is {
			return l
		}
		l = append(l, c)
	}
}

// P171, P172: wherever the power goes, and whatever is kept of what waits, what counted ahead of the call is told, or what it made count; both come about. Opened anew, the log goes on.
func TestWhereverPowerGoes(t *testing.T) {
	old, made := 0, 0
	for _, way := range ways {
		for _, c := range cuts(t, way, 40) {
			for _, keep := range choices(c.d.Waiting()) {
				x := c.d.Copy()
				x.Crash(keep)
				got := told(t, x)
				switch got {
				case c.before:
					old++
				case c.after:
					made++
				default:
					t.Fatalf("%v: %q; want %q or %q", keep, got, c.before, c.after)
				}
				if got == "none" {
					format(t, x)
				}
				goesOn(t, x)
			}
		}
	}
	if old < 100 || made < 20 {
		t.Errorf("%d times as before, %d times as behind it", old, made)
	}
}

// goesOn: can a log that was opened anew be added to, cleared and formatted?
func goesOn(t *testing.T, d *disk.Disk) {
	t.Helper()
	l, records := open(t, d)
	checkErr(t, l.Add([]string{"on", text(70)}), nil)
	has(t, d, append(records, "on", text(70))...)
	checkErr(t, l.Clear([]string{"anew", text(70)}), nil)
	has(t, d, "anew", text(70))
	checkErr(t, l.Add([]string{"on"}), nil)
	has(t, d, "anew", text(70), "on")
	format(t, d)
	has(t, d)
}

// Steps that may come behind a loss of power.
var further = []step{{"add", []string{"x", text(61)}}, {"clear", []string{"y", text(61)}}, {"format", nil}}

// P172: it holds also of the call behind a crash, in which the power goes again.
func TestPowerGoesTwice(t *testing.T) {
	for _, way := range ways {
		for _, c := range cuts(t, way, 30) {
			for _, keep := range choices(c.d.Waiting()) {
				x := c.d.Copy()
				x.Crash(keep)
				if told(t, x) == "none" {
					continue
				}
				for _, s := range further {
					again(t, x, s)
				}
			}
		}
	}
}

// again the power goes, in a step of a log that is opened: what was told then, or what the step makes, is told.
func again(t *testing.T, first *disk.Disk, s step) {
	t.Helper()
	for acts := 0; ; acts++ {
		d := first.Copy()
		checkErr(t, d.Fail(acts), nil)
		l, records := open(t, d)
		_, err := s.take(d, l)
		if err == nil {
			has(t, d, s.after(records)...)
			return
		}
		checkErr(t, err, api.ErrPower)
		for _, keep := range choices(d.Waiting()) {
			x := d.Copy()
			x.Crash(keep)
			if got := told(t, x); got != spell(records) && got != spell(s.after(records)) {
				t.Fatalf("%v, %v: %q; want %q or %q", s, keep, got, spell(records), spell(s.after(records)))
			}
		}
	}
}

// P172: it holds also where the power comes back without a crash, so that writes wait on: opened then, what was told lasts.
func TestPowerComesBack(t *testing.T) {
	for _, way := range ways {
		for _, c := range cuts(t, way, 30) {
			if got := told(t, c.d); got != c.before && got != c.after {
				t.Fatalf("%q; want %q or %q", got, c.before, c.after)
			}
			checkErr(t, c.d.Fail(1000), nil)
			if got := told(t, c.d); got == "none" {
				continue
			}
			for _, s := range further {
				again(t, c.d, s)
			}
			got := told(t, c.d)
			c.d.Crash(nil)
			if told(t, c.d) != got {
				t.Fatalf("%q; want %q", told(t, c.d), got)
			}
		}
	}
}

// P172: where the log was opened ahead of that, what waited then may still go; but never is anything told that did not count.
func TestPowerComesBackLater(t *testing.T) {
	for _, way := range ways {
		for _, c := range cuts(t, way, 30) {
			if told(t, c.d) == "none" {
				continue
			}
			for _, s := range further {
				for acts := range 9 {
					later(t, c, s, acts)
				}
			}
		}
	}
}

// later the power comes back to a log that was opened without it, for so many acts.
func later(t *testing.T, c cut, s step, acts int) {
	t.Helper()
	d := c.d.Copy()
	l, records := open(t, d)
	checkErr(t, d.Fail(acts), nil)
	_, err := s.take(d, l)
	may := []string{c.before, c.after, spell(s.after(records))}
	if err == nil {
		may = may[2:]
	}
	for _, keep := range choices(d.Waiting()) {
		x := d.Copy()
		x.Crash(keep)
		if got := told(t, x); !slices.Contains(may, got) {
			t.Fatalf("%v, %v: %q; want one of %q", s, keep, got, may)
		}
	}
}

// P171: a log whose power went does nothing any more, wherever it went, and also where it is back.
func TestDarkDoesNothing(t *testing.T) {
	for _, way := range ways {
		for _, c := range cuts(t, way, 40) {
			if c.log == nil {
				continue
			}
			for _, crashes := range []bool{false, true} {
				d := c.d
				if crashes {
					d.Crash(nil)
				} else {
					checkErr(t, d.Fail(1000), nil)
				}
				before, waiting := contents(t, d), d.Waiting()
				for _, records := range [][]string{nil, {"z"}, {text(5000)}} {
					checkErr(t, c.log.Add(records), api.ErrPower)
					checkErr(t, c.log.Clear(records), api.ErrPower)
				}
				if !slices.Equal(contents(t, d), before) || d.Waiting() != waiting {
					t.Fatal("something was done")
				}
			}
		}
	}
}

// P171: of a long list all records count, or none, where ever the power goes, and whatever is kept of each kind.
func TestAllOrNone(t *testing.T) {
	records := slices.Repeat([]string{"some", text(100), ""}, 30)
	for _, how := range []string{"add", "clear"} {
		s := step{how, records}
		whole := false
		for acts := 0; !whole; acts++ {
			d, l := begin(t, 400)
			checkErr(t, l.Add([]string{"old"}), nil)
			checkErr(t, d.Fail(acts), nil)
			_, err := s.take(d, l)
			whole = err == nil
			for every := range 5 {
				for from := range 5 {
					x := d.Copy()
					keep := make([]bool, d.Waiting())
					for i := range keep {
						keep[i] = i%(every+1) == from%(every+1)
					}
					x.Crash(keep)
					got := told(t, x)
					if got != spell(s.after([]string{"old"})) && (whole || got != spell([]string{"old"})) {
						t.Fatalf("%s, %d, %v: %q", how, acts, keep, got)
					}
				}
			}
		}
	}
}

// P170: a Format whose power goes leaves what was there, or an empty log, also where much is wiped.
func TestFormatAllOrNone(t *testing.T) {
	met := map[string]int{}
	for acts := 0; ; acts++ {
		d, l := begin(t, 60)
		checkErr(t, l.Add([]string{text(500)}), nil)
		checkErr(t, l.Clear([]string{"old"}), nil)
		checkErr(t, d.Fail(acts), nil)
		_, err := log.Format(d)
		if err == nil {
			has(t, d)
			break
		}
		checkErr(t, err, api.ErrPower)
		for _, keep := range choices(d.Waiting()) {
			x := d.Copy()
			x.Crash(keep)
			got := told(t, x)
			if got != spell([]string{"old"}) && got != "" {
				t.Fatalf("%d, %v: %q", acts, keep, got)
			}
			met[got]++
		}
	}
	if len(met) != 2 {
		t.Error(met)
	}
}
