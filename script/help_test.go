package script_test

import (
	"errors"
	"slices"
	"strings"
	"testing"

	"pigeonholes/api"
	"pigeonholes/plain"
	"pigeonholes/script"
)

// What the package exports, as it was given.
var _ func([]string) ([]string, error) = script.Run

// Texts of errors, as answers have them.
const (
	isText  = "pigeonholes: text"
	isBound = "pigeonholes: bound"
	isNone  = "pigeonholes: none"
	isExist = "pigeonholes: exist"
	isDir   = "pigeonholes: dir"
	isFile  = "pigeonholes: file"
	isFull  = "pigeonholes: full"
	isHeld  = "pigeonholes: held"
)

// sheet of lines, and of what each must answer.
type sheet struct{ lines, answers []string }

// has lines and their answers, by turns.
func (s *sheet) has(pairs ...string) {
	for pair := range slices.Chunk(pairs, 2) {
		s.lines, s.answers = append(s.lines, pair[0]), append(s.answers, pair[1])
	}
}

// asks on an empty net: sent, done, and its reply heard.
func (s *sheet) asks(pairs ...string) {
	for pair := range slices.Chunk(pairs, 2) {
		s.has(pair[0], "sent", "go 0", "did", "go 0", pair[1])
	}
}

// plays as it must.
func (s *sheet) plays(t *testing.T) {
	t.Helper()
	got := runs(t, s.lines)
	for i, line := range s.lines {
		if got[i] != s.answers[i] {
			t.Fatalf("line %d, %.60q: %.80q; want %.80q\n%.3000s", i, line, got[i], s.answers[i], strings.Join(s.lines[:i], "\n"))
		}
	}
}

// runs well, with an answer for each line.
func runs(t *testing.T, lines []string) []string {
	t.Helper()
	got, err := script.Run(lines)
	checkErr(t, err, nil)
	if len(got) != len(lines) {
		t.Fatalf("%d answers to %d lines", len(got), len(lines))
	}
	return got
}

// played: lines and their answers, by turns, as they must be.
func played(t *testing.T, pairs ...string) {
	t.Helper()
	s := &sheet{}
	s.has(pairs...)
	s.plays(t)
}

// asked and answered, by turns, on a server of their own.
func asked(t *testing.T, pairs ...string) {
	t.Helper()
	s := &sheet{}
	s.asks(pairs...)
	s.plays(t)
}

// checkErr: the error itself, without a place.
func checkErr(t *testing.T, err, want error) {
	t.Helper()
	var fault *api.Fault
	if err != want || errors.As(err, &fault) {
		t.Fatalf("%v; want %v", err, want)
	}
	if _, at := plain.Code(err); at != -1 {
		t.Fatalf("%v at %d", err, at)
	}
}
