package cache_test

import (
	"errors"
	"math"
	"strconv"
	"strings"
	"sync"
	"testing"

	"pigeonholes/api"
	"pigeonholes/cache"
	"pigeonholes/plain"
)

// What the package exports, as it was given.
var (
	_ func(int) (*cache.Cache, error)                               = cache.New
	_ func(*cache.Cache, string, int, string) (string, bool, error) = (*cache.Cache).Look
	_ func(*cache.Cache, string, int, string, string) error         = (*cache.Cache).Keep
	_ func(*cache.Cache) int                                        = (*cache.Cache).Count
)

// Texts of any kind: as a client's name, a request's text or its reply, each is as good as another.
var anything = []string{"", "a", "A", "ab", "a b", "a/1", "\x00", "a\x00", "\xff\xfe", "ä\n", strings.Repeat("x", api.MaxText), strings.Repeat("y", 1<<20)}

// Numbers of requests: any will do.
var anyone = []int{math.MinInt, -1 << 32, -1, 0, 1, 2, 1 << 32, math.MaxInt}

// checkErr: the error itself, without a place.
func checkErr(t *testing.T, err, want error) {
	t.Helper()
	var fault *api.Fault
	if err != want || errors.As(err, &fault) {
		t.Fatalf("%v; want %v", err, want)
	}
	if _, at := plain.Code(err); err != nil && at != -1 {
		t.Errorf("%v at %d", err, at)
	}
}

// begin a cache: it must go well, and knows nothing.
func begin(t *testing.T, most int) *cache.Cache {
	t.Helper()
	c, err := cache.New(most)
	checkErr(t, err, nil)
	if c == nil {
		t.Fatal("no cache")
	}
	count(t, c, 0)
	return c
}

// count of what is known.
func count(t *testing.T, c *cache.Cache, want int) {
	t.Helper()
	if n := c.Count(); n != want {
		t.Fatalf("%d replies; want %d", n, want)
	}
}

// unknown: by any text.
func unknown(t *testing.T, c *cache.Cache, client string, id int) {
	t.Helper()
	n := c.Count()
	for _, text := range []string{"", "x", textOf(id)} {
		reply, known, err := c.Look(client, id, text)
		checkErr(t, err, nil)
		if reply != "" || known {
			t.Fatalf("%d of %.20q: %.20q, %t", id, client, reply, known)
		}
	}
	count(t, c, n)
}

// known: by its own text it is answered, by another one refused, and it is not kept once more.
func known(t *testing.T, c *cache.Cache, client string, id int, text, want string) {
	t.Helper()
	n := c.Count()
	reply, is, err := c.Look(client, id, text)
	checkErr(t, err, nil)
	if reply != want || !is {
		t.Fatalf("%d of %.20q: %.20q, %t; want %.20q", id, client, reply, is, want)
	}
	for _, other := range []string{text + "!", "!" + text, "other"} {
		reply, is, err := c.Look(client, id, other)
		checkErr(t, err, api.ErrSeq)
		if reply != "" || is {
			t.Fatalf("%d of %.20q: %.20q, %t", id, client, reply, is)
		}
		checkErr(t, c.Keep(client, id, other, want), api.ErrExist)
		checkErr(t, c.Keep(client, id, text, want+"!"), api.ErrExist)
		checkErr(t, c.Keep(client, id, text, want), api.ErrExist)
	}
	if reply, is, err := c.Look(client, id, text); reply != want || !is || err != nil {
		t.Fatalf("%d of %.20q: %.20q, %t, %v; want %.20q", id, client, reply, is, err, want)
	}
	count(t, c, n)
}

// keep a reply: it was not known, and must go well.
func keep(t *testing.T, c *cache.Cache, client string, id int, text, reply string) {
	t.Helper()
	unknown(t, c, client, id)
	checkErr(t, c.Keep(client, id, text, reply), nil)
	known(t, c, client, id, text, reply)
}

// Texts and replies of requests by their numbers, all unlike.
func textOf(id int) string  { return "t" + strconv.Itoa(id) }
func replyOf(id int) string { return "r" + strconv.Itoa(id) }

// P130: ErrBound: most is not from 1 to MaxReplies; then there is no cache.
func TestBounds(t *testing.T) {
	for _, most := range []int{math.MinInt, -api.MaxReplies, -1, 0, api.MaxReplies + 1, 2 * api.MaxReplies, 1<<32 + 1, math.MaxInt} {
		c, err := cache.New(most)
		checkErr(t, err, api.ErrBound)
		if c != nil {
			t.Errorf("%d: a cache", most)
		}
	}
	for most := 1; most <= api.MaxReplies; most++ {
		keep(t, begin(t, most), "a", 1, "x", "y")
	}
}

// P130: what was not kept is not known, whoever asks; and to look keeps nothing.
func TestUnknown(t *testing.T) {
	c := begin(t, 2)
	for range 2 {
		for _, client := range anything {
			for _, id := range anyone {
				unknown(t, c, client, id)
			}
		}
	}
	count(t, c, 0)
	keep(t, c, "a", 1, "x", "y")
	unknown(t, c, "a", 2)
	unknown(t, c, "b", 1)
	count(t, c, 1)
}

// P130: a request's text and its reply are any texts, and are told as they were; also none at all.
func TestTexts(t *testing.T) {
	c := begin(t, api.MaxReplies)
	for i, text := range anything {
		for j, reply := range anything {
			keep(t, c, "a", i*len(anything)+j, text, reply)
		}
	}
}

// P130: ErrSeq of any other text, however near; also of none, and where none was the text.
func TestAnotherText(t *testing.T) {
	c := begin(t, api.MaxReplies)
	for i, text := range anything {
		keep(t, c, "a", i, text, "r")
	}
	for i := range anything {
		for j, text := range anything {
			reply, is, err := c.Look("a", i, text)
			if i == j {
				checkErr(t, err, nil)
			} else {
				checkErr(t, err, api.ErrSeq)
			}
			if is != (i == j) || (reply == "r") != is {
				t.Errorf("%d by the text of %d: %q, %t", i, j, reply, is)
			}
		}
	}
}

// P130: a request is its client's name and its number, both: others have the same name, the same number, the same text.
func TestRequestsAreUnlike(t *testing.T) {
	c := begin(t, api.MaxReplies)
	type one struct {
		client string
		id     int
	}
	l := []one{{"", 0}, {"", 1}, {"a", 0}, {"a", 1}, {"a", 11}, {"a1", 1}, {"a", -1}, {"a-", 1}, {"a", math.MinInt}, {"a", math.MaxInt}, {"A", 1}, {"b", 1}, {"a\x00", 1}, {"a ", 1}, {"a", 1 << 32}, {"a", 1<<32 + 1}, {"1", 1}, {"1a", 1}, {"11", 0}, {"ä", 1}}
	for i, r := range l {
		keep(t, c, r.client, r.id, "x", replyOf(i))
		count(t, c, i+1)
	}
	for i, r := range l {
		known(t, c, r.client, r.id, "x", replyOf(i))
	}
}

// P130: names and numbers are any, the same as texts: nothing is asked of them.
func TestAnyRequest(t *testing.T) {
	for _, client := range anything {
		c := begin(t, len(anyone))
		for i, id := range anyone {
			keep(t, c, client, id, textOf(i), replyOf(i))
		}
		for i, id := range anyone {
			known(t, c, client, id, textOf(i), replyOf(i))
		}
	}
}

// P130, P131: with more than most the one that was kept first goes, one each time; the last most are known.
func TestFirstGoes(t *testing.T) {
	for most := 1; most <= api.MaxReplies; most++ {
		c := begin(t, most)
		for i := range 3*most + 5 {
			keep(t, c, "a", i, textOf(i), replyOf(i))
			count(t, c, min(i+1, most))
			for j := range i + 1 {
				if j > i-most {
					known(t, c, "a", j, textOf(j), replyOf(j))
				} else {
					unknown(t, c, "a", j)
				}
			}
		}
	}
}

// P130, P131: the first one goes whosever it is, and whatever its number: most is of all clients together.
func TestFirstOfAll(t *testing.T) {
	c := begin(t, 3)
	keep(t, c, "b", 9, "x", "1")
	keep(t, c, "a", 5, "x", "2")
	keep(t, c, "c", 1, "x", "3")
	keep(t, c, "a", 4, "x", "4")
	unknown(t, c, "b", 9)
	known(t, c, "a", 5, "x", "2")
	keep(t, c, "a", 3, "x", "5")
	unknown(t, c, "a", 5)
	known(t, c, "c", 1, "x", "3")
	keep(t, c, "d", 0, "x", "6")
	unknown(t, c, "c", 1)
	known(t, c, "a", 4, "x", "4")
	known(t, c, "a", 3, "x", "5")
	known(t, c, "d", 0, "x", "6")
	count(t, c, 3)
}

// P130: to look for one, by its text or another, does not make it a later one; nor does keeping what is known.
func TestLookingKeepsNoLonger(t *testing.T) {
	c := begin(t, 3)
	for i := range 3 {
		keep(t, c, "a", i, textOf(i), replyOf(i))
	}
	for range 5 {
		known(t, c, "a", 0, textOf(0), replyOf(0))
	}
	keep(t, c, "a", 3, textOf(3), replyOf(3))
	unknown(t, c, "a", 0)
	for i := 1; i <= 3; i++ {
		known(t, c, "a", i, textOf(i), replyOf(i))
	}
}

// P130: ErrExist, with room and without, and nothing is changed: none goes for it, and the first text and reply stay.
func TestExist(t *testing.T) {
	for most := 1; most <= 4; most++ {
		c := begin(t, most)
		for i := range most {
			keep(t, c, "a", i, textOf(i), replyOf(i))
			for j := range i + 1 {
				for range 2 * most {
					checkErr(t, c.Keep("a", j, "other", "other"), api.ErrExist)
					checkErr(t, c.Keep("a", j, textOf(j), replyOf(j)), api.ErrExist)
				}
			}
			count(t, c, i+1)
		}
		for i := range most {
			known(t, c, "a", i, textOf(i), replyOf(i))
		}
	}
}

// P130: one that went is as if it had never been: it is kept anew, with another text and reply, and is the last one then.
func TestKeptAnew(t *testing.T) {
	c := begin(t, 2)
	keep(t, c, "a", 1, "x", "1")
	keep(t, c, "b", 1, "x", "2")
	keep(t, c, "a", 2, "x", "3")
	keep(t, c, "a", 1, "y", "4")
	unknown(t, c, "b", 1)
	known(t, c, "a", 2, "x", "3")
	keep(t, c, "b", 1, "x", "5")
	unknown(t, c, "a", 2)
	known(t, c, "a", 1, "y", "4")
	known(t, c, "b", 1, "x", "5")
	count(t, c, 2)
}

// P130: where most is 1, only the last one is known.
func TestOne(t *testing.T) {
	c := begin(t, 1)
	for i := range 50 {
		keep(t, c, "a", i%2, textOf(i), replyOf(i))
		unknown(t, c, "a", (i+1)%2)
		count(t, c, 1)
	}
}

// P2: caches of their own, worked on side by side, do not see each other.
func TestSideBySide(t *testing.T) {
	var group sync.WaitGroup
	for i := range 8 {
		c := begin(t, 1+i)
		group.Go(func() {
			for n := range 1000 {
				if err := c.Keep("a", n, textOf(n), replyOf(n+i)); err != nil {
					t.Errorf("%d: %v", n, err)
				}
				first := max(0, n-i)
				if reply, is, err := c.Look("a", first, textOf(first)); reply != replyOf(first+i) || !is || err != nil {
					t.Errorf("%d: %q, %t, %v", first, reply, is, err)
				}
				if reply, is, err := c.Look("a", first-1, textOf(first-1)); reply != "" || is || err != nil {
					t.Errorf("%d: %q, %t, %v", first-1, reply, is, err)
				}
			}
			if c.Count() != 1+i {
				t.Errorf("%d replies", c.Count())
			}
		})
	}
	group.Wait()
}

// What README.md says of a cache.
func TestReadme(t *testing.T) {
	c := begin(t, 2)
	unknown(t, c, "ann", 1)
	checkErr(t, c.Keep("ann", 1, "text", "reply"), nil)
	known(t, c, "ann", 1, "text", "reply")
	checkErr(t, c.Keep("bob", 1, "text", "other"), nil)
	checkErr(t, c.Keep("ann", 2, "more", "done"), nil)
	count(t, c, 2)
	unknown(t, c, "ann", 1)
}
