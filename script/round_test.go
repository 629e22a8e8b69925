package script_test

import (
	"math/rand"
	"strconv"
	"strings"
	"testing"

	"pigeonholes/api"
	"pigeonholes/script"
)

// compare what a script answers with what the book does.
func compare(t *testing.T, lines []string) []string {
	t.Helper()
	want := newBook().run(lines)
	got, err := script.Run(lines)
	checkErr(t, err, nil)
	if len(got) != len(want) {
		t.Fatalf("%d answers to %d lines", len(got), len(lines))
	}
	for i := range want {
		if got[i] != want[i] {
			t.Fatalf("line %d, %.60q: %.80q; want %.80q\n%.3000s", i, lines[i], got[i], want[i], strings.Join(lines[:i], "\n"))
		}
	}
	return got
}

func oneOf(rnd *rand.Rand, l ...string) string { return l[rnd.Intn(len(l))] }

func anyWho(rnd *rand.Rand) string { return oneOf(rnd, "a", "b", "c") }

func anyPath(rnd *rand.Rand) string {
	return oneOf(rnd, "/", "/d", "/d", "/d/e", "/d/f", "/d/e/f", "/d/f", "/f", "/f", "/d-", "/d.x/y", "/"+oneOf(rnd, "", "x/", "d//", ".", "d/..")+oneOf(rnd, "x", "é", "d"))
}

func anyNumber(rnd *rand.Rand) string {
	switch rnd.Intn(12) {
	case 0:
		return oneOf(rnd, "4090", "4095", "4096", "4097", "99999", "100000", "3700", "3740", "01", "-1", "")
	case 1:
		return strconv.Itoa(rnd.Intn(4100))
	}
	return strconv.Itoa(rnd.Intn(9))
}

func anyText(rnd *rand.Rand) string {
	switch rnd.Intn(30) {
	case 0:
		return oneOf(rnd, "", "a-b", "é", "x y")
	case 1:
		return strings.Repeat("x", 3600+rnd.Intn(500))
	}
	return oneOf(rnd, "x", "hey", "0", "nothing")
}

func anyCall(rnd *rand.Rand) string {
	who, path := anyWho(rnd), anyPath(rnd)
	switch rnd.Intn(8) {
	case 0, 1, 2:
		return "make " + who + " " + path + " " + oneOf(rnd, "file", "dir")
	case 3:
		if rnd.Intn(2) == 0 {
			return "write " + who + " " + path + " " + anyNumber(rnd) + " " + anyText(rnd)
		}
		return "rm " + who + " " + path
	case 4:
		return "write " + who + " " + path + " " + anyNumber(rnd) + " " + anyText(rnd)
	case 5:
		return "read " + who + " " + path + " " + anyNumber(rnd) + " " + anyNumber(rnd)
	case 6:
		return "ls " + who + " " + path
	}
	return "stat " + who + " " + path
}

// anyLine: the net is now and then heard to its end, or loses and doubles much.
func anyLine(rnd *rand.Rand) string {
	switch rnd.Intn(100) {
	case 0:
		return oneOf(rnd, "", "what", "net ", " tree", "go", "again", "go 00", "twice -1")
	case 1, 2:
		return "net"
	case 3, 4:
		return "tree"
	case 5, 6, 7:
		return "again " + anyWho(rnd)
	case 8, 9, 10:
		return "drop " + oneOf(rnd, "0", "0", "1", "2", "7")
	case 11, 12, 13, 14:
		return "twice " + oneOf(rnd, "0", "0", "1", "2", "7")
	}
	if rnd.Intn(10) < 3 {
		return anyCall(rnd)
	}
	return "go " + oneOf(rnd, "0", "0", "0", "0", "1", "1", "2", "3")
}

// anyBeginning: nothing, or some of what most paths name.
func anyBeginning(rnd *rand.Rand) []string {
	var lines []string
	for _, call := range []string{"make a /f file", "write b /f 0 hey", "make c /d dir", "make a /d/f file", "make b /d/e dir"}[:rnd.Intn(6)] {
		lines = append(lines, call, "go 0", "go 0")
	}
	return lines
}

// P200 to P202: drawn scripts are answered as the book answers them; among the answers are all that there are.
func TestAsTheBook(t *testing.T) {
	rnd := rand.New(rand.NewSource(200))
	seen := map[string]int{}
	for range 3000 {
		lines := anyBeginning(rnd)
		for range rnd.Intn(api.MaxLines + 1 - len(lines)) {
			lines = append(lines, anyLine(rnd))
		}
		for _, answer := range compare(t, lines) {
			seen[answer]++
		}
	}
	for _, answer := range []string{"sent", "did", "kept", "late", "ok", "nothing", "0", "5", "/d/", "/d/ /d/f", "/d/ /d/e/ /f", "hey", "f", "d f", "file 0 1", "file 3 1", "dir 0 2", "dir 1 3", isText, isBound, isNone, isExist, isDir, isFile, isFull, isHeld} {
		if seen[answer] < 10 {
			t.Errorf("%q was answered %d times", answer, seen[answer])
		}
	}
}

// P202: however often a request is told, in whatever order, it is done once, and each of its replies says the same.
func TestDoneOnce(t *testing.T) {
	played(t,
		"make a /f file", "sent", "twice 0", "ok", "twice 0", "ok", "go 0", "did", "rm b /f", "sent", "go 3", "did", "tree", "nothing", "go 0", "kept", "tree", "nothing", "go 0", "kept", "tree", "nothing",
		"go 0", "ok", "go 0", "ok", "go 0", "late", "go 0", "late", "net", "0",
	)
	played(t,
		"make a /f file", "sent", "go 0", "did", "go 0", "ok", "rm a /f", "sent", "twice 0", "ok", "go 0", "did", "make b /f dir", "sent", "go 2", "did", "again b", "sent", "go 0", "kept", "tree", "/f/",
		"go 2", "kept", "tree", "/f/", "go 0", "ok", "go 0", "ok",
	)
	played(t,
		"make a /f file", "sent", "go 0", "did", "go 0", "ok", "write a /f 0 old", "sent", "twice 0", "ok", "go 0", "did", "write b /f 0 new", "sent", "go 2", "did", "go 0", "kept", "go 0", "ok", "go 0", "ok",
		"read c /f 0 9", "sent", "twice 1", "ok", "go 1", "did", "drop 2", "ok", "write a /f 0 NEW", "sent", "go 2", "did", "go 1", "kept", "go 2", "new", "go 0", "late", "go 0", "ok", "net", "0",
	)
}

// P202: in any order in which the net has requests of three callers, twice each, done is one of each.
func TestDoneOnceInAnyOrder(t *testing.T) {
	rnd := rand.New(rand.NewSource(202))
	for range 500 {
		lines := []string{"make a /f file", "make b /f file", "make c /f file"}
		for range 12 {
			lines = append(lines, oneOf(rnd, "again a", "again b", "again c", "twice 0", "twice 1", "twice 2"))
		}
		for left := 15; left > 0; left-- {
			lines = append(lines, "go "+strconv.Itoa(rnd.Intn(left)))
		}
		for left := 15; left > 0; left-- {
			lines = append(lines, "go "+strconv.Itoa(rnd.Intn(left)))
		}
		seen := map[string]int{}
		for _, answer := range compare(t, append(lines, "tree", "net")) {
			seen[answer]++
		}
		if seen["did"] != 3 || seen["kept"] != 12 || seen["late"] != 12 || seen["/f"] != 1 || seen[isExist] != 2 {
			t.Fatalf("%q: %v", lines, seen)
		}
	}
}

// FuzzScript takes a line for a command.
func FuzzScript(f *testing.F) {
	f.Add("")
	f.Add("make a /d dir\ntwice 0\ngo 0\ngo 0\ngo 0\ngo 0\ntree\nnet")
	f.Add("make b /f file\ngo 0\ndrop 0\nagain b\ngo 0\ngo 0\nwrite c /f 2 hey\ngo 0\ngo 0\nread a /f 0 9\ngo 0\ngo 0")
	f.Add("ls a /\nstat b /\ngo 1\ngo 1\ngo 0\ngo 0\nrm c /f\ngo 0\ngo 0\ngo 00\nmake a / file")
	f.Fuzz(func(t *testing.T, s string) {
		lines := strings.Split(s, "\n")
		if len(lines) > api.MaxLines {
			got, err := script.Run(lines)
			if len(got) != 0 {
				t.Errorf("%q beside an error", got)
			}
			checkErr(t, err, api.ErrBound)
			return
		}
		compare(t, lines)
	})
}
