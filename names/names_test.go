package names_test

import (
	"errors"
	"slices"
	"strings"
	"testing"

	"pigeonholes/api"
	"pigeonholes/names"
	"pigeonholes/plain"
)

// What the package exports, as it was given.
var (
	_ func(string) error             = names.Check
	_ func(string) ([]string, error) = names.Split
	_ func([]string) (string, error) = names.Join
	_ func(string, string) bool      = names.Match
)

const signs = "abcdefghijklmnopqrstuvwxyzABCDEFGHIJKLMNOPQRSTUVWXYZ0123456789.-_"

// inPlace checks for ErrName at a place, as a fault that wraps it bare.
func inPlace(t *testing.T, what any, err error, at int) {
	t.Helper()
	var fault *api.Fault
	if !errors.As(err, &fault) {
		t.Errorf("%q: %v, not a fault", what, err)
		return
	}
	if fault.At != at || fault.Err != api.ErrName {
		t.Errorf("%q: %v at %d; want %v at %d", what, fault.Err, fault.At, api.ErrName, at)
	}
	if code, place := plain.Code(err); code != 4 || place != at {
		t.Errorf("%q: code %d at %d", what, code, place)
	}
}

// P20: each byte of a name is a sign, wherever it stands, and no other byte is.
func TestSignsOfNames(t *testing.T) {
	for n := range 256 {
		b := string([]byte{byte(n)})
		right := strings.Contains(signs, b)
		for _, s := range []string{b, b + "ab", "a" + b + "b", "ab" + b} {
			var want error
			if !right || s == "." {
				want = api.ErrName
			}
			if err := names.Check(s); err != want {
				t.Errorf("%q: %v; want %v", s, err, want)
			}
		}
	}
}

// P20: a name has 1 to MaxName bytes.
func TestLengthsOfNames(t *testing.T) {
	for n := range 3 * api.MaxName {
		var want error
		if n == 0 || n > 24 {
			want = api.ErrName
		}
		for _, b := range []string{"a", "-"} {
			if err := names.Check(strings.Repeat(b, n)); err != want {
				t.Errorf("%d of %q: %v; want %v", n, b, err, want)
			}
		}
	}
	if err := names.Check(strings.Repeat("a", 1<<20)); err != api.ErrName {
		t.Error(err)
	}
}

// P20: dots are signs, but one or two alone are no name.
func TestDots(t *testing.T) {
	for s, want := range map[string]error{
		".": api.ErrName, "..": api.ErrName, "...": nil, "....": nil, ".a": nil, "a.": nil, "..a": nil, "a..": nil, ".-": nil, "._": nil,
		"-": nil, "_": nil, "--": nil, "0": nil, "A": nil,
	} {
		if err := names.Check(s); err != want {
			t.Errorf("%q: %v; want %v", s, err, want)
		}
	}
}

// P20: bytes that are letters elsewhere are none here.
func TestNoNames(t *testing.T) {
	for _, s := range []string{"é", "aé", "\u017f", "\u212a", "\uff41", "\u0663", "\xff", "a\x00", "\x00", "a b", " a", "a ", "a\n", "a/b", "/", "/a", "a/", "*", "a?", "a\\b", "~", "a:b", "a@b"} {
		if err := names.Check(s); err != api.ErrName {
			t.Errorf("%q: %v; want %v", s, err, api.ErrName)
		}
	}
}

// P20: paths, split and joined.
func TestPaths(t *testing.T) {
	long := strings.Repeat("n", 24)
	for s, want := range map[string][]string{
		"/":                      {},
		"/a":                     {"a"},
		"/a/b":                   {"a", "b"},
		"/a/a/a":                 {"a", "a", "a"},
		"/.../-/_":               {"...", "-", "_"},
		"/" + long + "/" + long:  {long, long},
		strings.Repeat("/d", 12): slices.Repeat([]string{"d"}, 12),
	} {
		if l, err := names.Split(s); !slices.Equal(l, want) || err != nil {
			t.Errorf("%q: %q, %v", s, l, err)
		}
		if got, err := names.Join(want); got != s || err != nil {
			t.Errorf("%q: %q, %v", want, got, err)
		}
	}
	if s, err := names.Join(nil); s != "/" || err != nil {
		t.Errorf("no names: %q, %v", s, err)
	}
}

// P20: what has no slash ahead, or one at the end, is no path, whatever its names are.
func TestNoPaths(t *testing.T) {
	for _, s := range []string{
		"", "a", "a/b", "a/", ".", "..", " /a", "\x00/a", "*", "/a/", "//", "///", "/a//", "/../", "a/../", "/é/", "./a",
		strings.Repeat("/d", 12) + "/", strings.Repeat("/d", 13) + "/", strings.Repeat("d/", 13), strings.Repeat("d/", 13) + "d",
	} {
		if l, err := names.Split(s); len(l) != 0 || err != api.ErrText {
			t.Errorf("%q: %q, %v; want %v", s, l, err, api.ErrText)
		}
	}
}

// P20: the first name that is none is told, from 0 on, ahead of there being too many.
func TestPlacesOfNoNames(t *testing.T) {
	long := strings.Repeat("n", 25)
	for _, c := range []struct {
		s  string
		at int
	}{
		{"//a", 0}, {"/a//b", 1}, {"/a///b", 1}, {"/./a", 0}, {"/a/.", 1}, {"/a/..", 1}, {"/a/../b", 1}, {"/..", 0}, {"/.", 0},
		{"/ ", 0}, {"/a/b c", 1}, {"/a/b/é/..", 2}, {"/" + long, 0}, {"/a/" + long + "/..", 1}, {"/a/*", 1},
		{strings.Repeat("/d", 12) + "/..", 12}, {strings.Repeat("/d", 13) + "/.", 13}, {"/." + strings.Repeat("/d", 13), 0},
		{strings.Repeat("/d", 2000) + "//d", 2000},
	} {
		l, err := names.Split(c.s)
		inPlace(t, c.s, err, c.at)
		if len(l) != 0 {
			t.Errorf("%q: %q beside an error", c.s, l)
		}
		s, err := names.Join(strings.Split(c.s[1:], "/"))
		inPlace(t, c.s, err, c.at)
		if s != "" {
			t.Errorf("%q: %q beside an error", c.s, s)
		}
	}
}

// P20: a path has at most MaxDeep names.
func TestDeepPaths(t *testing.T) {
	for _, n := range []int{11, 12, 13, 14, 24, 25, 2000} {
		var want error
		if n > 12 {
			want = api.ErrBound
		}
		s := strings.Repeat("/d", n)
		l, err := names.Split(s)
		if err != want || want == nil && len(l) != n || want != nil && len(l) != 0 {
			t.Errorf("%d names: %q, %v; want %v", n, l, err, want)
		}
		joined, err := names.Join(slices.Repeat([]string{"d"}, n))
		if err != want || want == nil && joined != s || want != nil && joined != "" {
			t.Errorf("%d names: %q, %v; want %v", n, joined, err, want)
		}
	}
}

// P20: names that are none of themselves are not joined: a slash in one would make two.
func TestJoinNoNames(t *testing.T) {
	for _, c := range []struct {
		l  []string
		at int
	}{
		{[]string{""}, 0}, {[]string{"a", ""}, 1}, {[]string{"a/b"}, 0}, {[]string{"a", "/"}, 1}, {[]string{"/a"}, 0}, {[]string{"a", "b", "..", ""}, 2},
		{make([]string, 2), 0}, {make([]string, 40), 0}, {append(slices.Repeat([]string{"d"}, 12), ""), 12}, {append(slices.Repeat([]string{"d"}, 20), "."), 20},
	} {
		s, err := names.Join(c.l)
		inPlace(t, c.l, err, c.at)
		if s != "" {
			t.Errorf("%q: %q beside an error", c.l, s)
		}
	}
}

// P4: what is joined is only read, up to its length; what was split is nobody else's.
func TestListsAreApart(t *testing.T) {
	whole := []string{"a", "b", "", ".."}
	s, err := names.Join(whole[:2])
	if s != "/a/b" || err != nil || !slices.Equal(whole, []string{"a", "b", "", ".."}) {
		t.Error(s, err, whole)
	}
	whole[0] = "z"
	if s != "/a/b" {
		t.Error(s)
	}
	one, _ := names.Split(s)
	two, _ := names.Split(s)
	one[0] = "x"
	_ = append(one[:1], "y")
	if three, _ := names.Split(s); !slices.Equal(two, []string{"a", "b"}) || !slices.Equal(three, two) {
		t.Error(two, three)
	}
}
