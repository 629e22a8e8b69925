package names_test

import (
	"strings"
	"testing"

	"pigeonholes/names"
)

// fits is the promise word by word, slowly.
func fits(pattern, s string) bool {
	if pattern == "" {
		return s == ""
	}
	if pattern[0] == '*' {
		for n := 0; n <= len(s); n++ {
			if fits(pattern[1:], s[n:]) {
				return true
			}
		}
		return false
	}
	return s != "" && (pattern[0] == '?' || pattern[0] == s[0]) && fits(pattern[1:], s[1:])
}

// texts are all texts of up to most of those bytes.
func texts(bytes string, most int) []string {
	l := []string{""}
	for from := 0; most > 0; most-- {
		to := len(l)
		for _, s := range l[from:to] {
			for i := range len(bytes) {
				l = append(l, s+bytes[i:i+1])
			}
		}
		from = to
	}
	return l
}

// P21: every short pattern against every short text.
func TestMatchEach(t *testing.T) {
	for _, pattern := range texts("ab*?", 6) {
		for _, s := range texts("ab", 6) {
			if got, want := names.Match(pattern, s), fits(pattern, s); got != want {
				t.Fatalf("%q, %q: %v; want %v", pattern, s, got, want)
			}
		}
	}
}

// P21: stars and question marks of the text stand for themselves.
func TestMatchSignsInText(t *testing.T) {
	for _, pattern := range texts("a*?", 4) {
		for _, s := range texts("a*?", 4) {
			if got, want := names.Match(pattern, s), fits(pattern, s); got != want {
				t.Fatalf("%q, %q: %v; want %v", pattern, s, got, want)
			}
		}
	}
}

// P21: cases of note.
func TestMatch(t *testing.T) {
	for _, c := range []struct {
		pattern, s string
		want       bool
	}{
		{"", "", true}, {"", "a", false}, {"a", "", false}, {"a", "a", true}, {"a", "A", false}, {"ab", "a", false}, {"a", "ab", false},
		{"*", "", true}, {"*", "a/b c", true}, {"**", "", true}, {"***", "x", true}, {"?", "", false}, {"?", "x", true}, {"?", "xy", false},
		{"*?", "", false}, {"?*", "a", true}, {"*?*", "", false}, {"*?*?*", "a", false}, {"a*", "a", true}, {"*a", "ba", true}, {"*a", "ab", false},
		{"*aab", "aaaab", true}, {"a*ab*b", "aabb", true}, {"*a*b*a*", "aba", true}, {"*a*b*a*", "abb", false}, {"*abc*abd", "abcabcabd", true},
		{"*", "*", true}, {"*", "*a", true}, {"*b", "*a", false}, {"a", "*", false}, {"a", "?", false}, {"?", "*", true}, {"a*", "*a", false},
		{"[a-c]", "b", false}, {"[a-c]", "[a-c]", true}, {"\\*", "*", false}, {"\\*", "\\x", true}, {"a.c", "abc", false}, {"*", "\x00\xff\n", true},
		{"?", "é", false}, {"??", "é", true}, {"*\xa9", "é", true}, {"\xff?", "\xff\xfe", true}, {"é", "é", true}, {"\xff", "\ufffd", false}, {"*/b", "a/b", true}, {"*", "/", true},
	} {
		if got := names.Match(c.pattern, c.s); got != c.want {
			t.Errorf("%q, %q: %v; want %v", c.pattern, c.s, got, c.want)
		}
	}
}

// P1: a call ends, also where every star could be tried against every byte.
func TestMatchEnds(t *testing.T) {
	s := strings.Repeat("a", 4000)
	if names.Match(strings.Repeat("*a", 2000)+"*b", s) {
		t.Error("there is no b")
	}
	if !names.Match(strings.Repeat("*a", 2000)+"*", s) || names.Match(strings.Repeat("*a", 4001), s) || !names.Match(strings.Repeat("a*", 4000), s) {
		t.Error("stars stand for no bytes, too")
	}
	if names.Match("*"+strings.Repeat("a", 2000)+"b", s) || names.Match(strings.Repeat("?", 4001), s) || !names.Match(strings.Repeat("?", 4000), s) {
		t.Error("each sign stands for one byte")
	}
}
