package script_test

import (
	"slices"
	"strings"
	"sync"
	"testing"

	"pigeonholes/api"
	"pigeonholes/script"
)

// P200: up to 100 lines, each with its answer; more are ErrBound, whatever they are.
func TestRunBound(t *testing.T) {
	for _, count := range []int{0, 1, 2, 99, 100} {
		for line, want := range map[string]string{"net": "0", "tree": "nothing", "": isText, "make a /": isText} {
			s := &sheet{}
			s.has(slices.Repeat([]string{line, want}, count)...)
			s.plays(t)
		}
	}
	runs(t, nil)
	for _, count := range []int{101, 102, 10000} {
		for _, line := range []string{"net", "", "what"} {
			got, err := script.Run(slices.Repeat([]string{line}, count))
			if len(got) != 0 {
				t.Errorf("%q beside an error", got)
			}
			checkErr(t, err, api.ErrBound)
		}
	}
}

// P200, P201: make, of files and directories; its reply says `ok`, or the error.
func TestMake(t *testing.T) {
	asked(t,
		"make a /f file", "ok", "make b /d dir", "ok", "make c /d/f file", "ok", "make a /d/d dir", "ok",
		"stat a /f", "file 0 1", "stat a /d/f", "file 0 1", "stat a /d/d", "dir 0 2", "stat a /d", "dir 2 3",
		"make a /f file", isExist, "make a /f dir", isExist, "make a /d file", isExist, "make a /d/d dir", isExist,
		"make a /f/g file", isDir, "make a /f/g/h dir", isDir, "make a /g/f file", isNone, "make a /d/g/f/h dir", isNone,
	)
}

// P200, P201: rm.
func TestRemove(t *testing.T) {
	asked(t,
		"rm a /f", isNone, "make a /f file", "ok", "rm b /f", "ok", "rm a /f", isNone, "make c /f dir", "ok", "make a /f/g dir", "ok", "make a /f/g/h file", "ok",
		"rm a /f", isHeld, "rm a /f/g", isHeld, "rm a /f/g/h/i", isDir, "rm a /f/g/i", isNone, "rm a /g/h", isNone,
		"rm a /f/g/h", "ok", "rm b /f/g", "ok", "rm c /f", "ok", "rm c /f", isNone, "ls a /", "nothing",
	)
}

// P200, P201: write and read, from the number that comes first on.
func TestWriteRead(t *testing.T) {
	asked(t,
		"make a /f file", "ok", "read a /f 0 5", "nothing", "write a /f 3 abcXYZ019", "ok", "stat a /f", "file 12 1",
		"read b /f 0 4", "\x00\x00\x00a", "read b /f 3 3", "abc", "read b /f 3 99999", "abcXYZ019", "read b /f 11 1", "9", "read b /f 11 2", "9",
		"read b /f 12 1", "nothing", "read b /f 99999 99999", "nothing", "read b /f 4 0", "nothing",
		"write c /f 4 0", "ok", "read a /f 3 3", "a0c",
	)
	asked(t,
		"make a /f file", "ok", "write a /f 4095 x", "ok", "stat b /f", "file 4096 1", "read a /f 4095 9", "x",
		"write a /f 4096 x", isBound, "write a /f 4095 xy", isBound, "write a /f 99999 x", isBound, "read a /f 4094 9", "\x00x",
		"write a / 0 x", isFile, "read a / 0 1", isFile, "write a /g 0 x", isNone, "read a /g 0 1", isNone, "write a /f/g 0 x", isDir, "read a /f/g 0 1", isDir,
	)
}

// P200: with State 0, whatever is open: nothing is, so all may be read and written; a text can be like a word.
func TestTextLikeWords(t *testing.T) {
	asked(t, "make a /file file", "ok", "make a /file/f file", isDir, "write a /file 0 file", "ok", "read b /file 0 9", "file", "write a /file 0 nothing", "ok", "read c /file 0 9", "nothing", "write a /file 0 0", "ok", "read a /file 0 2", "0o")
}

// P200, P201: ls tells names in order, with blanks between; or `nothing`.
func TestList(t *testing.T) {
	asked(t,
		"ls a /", "nothing", "make a /b dir", "ok", "ls a /", "b", "ls b /b", "nothing", "make a /a file", "ok", "make a /B dir", "ok", "make a /b- file", "ok", "make a /b/c file", "ok", "make a /b.0 dir", "ok", "make a /10 file", "ok", "make a /9 file", "ok",
		"ls c /", "10 9 B a b b- b.0", "ls c /b", "c", "ls c /b/c", isDir, "ls c /a", isDir, "ls c /c", isNone, "ls c /c/d", isNone, "ls c /a/d", isDir,
	)
}

// P200: all of a directory, though it has many.
func TestListAll(t *testing.T) {
	s := &sheet{}
	var names []string
	for i := range 31 {
		name := "a" + string([]byte{'a' + byte(i/26), 'a' + byte(i%26)})
		names = append(names, name)
		s.asks("make a /"+name+" file", "ok")
	}
	s.asks("ls b /", strings.Join(names, " "))
	s.has("tree", "/"+strings.Join(names, " /"))
	s.plays(t)
}

// P200, P201: stat tells kind, size and links.
func TestStat(t *testing.T) {
	asked(t,
		"stat a /", "dir 0 2", "make a /d dir", "ok", "stat a /", "dir 1 3", "make a /e dir", "ok", "make a /f file", "ok", "stat a /", "dir 3 4", "stat b /d", "dir 0 2",
		"make a /d/f file", "ok", "stat b /d", "dir 1 2", "stat b /d/f", "file 0 1", "write b /d/f 9 x", "ok", "stat c /d/f", "file 10 1",
		"stat c /g", isNone, "stat c /f/g", isDir, "rm a /e", "ok", "stat a /", "dir 2 3",
	)
}

// P200: tree tells all paths, depth first, by name; it is done at once.
func TestTree(t *testing.T) {
	s := &sheet{}
	s.has("tree", "nothing")
	s.asks("make a /d dir", "ok", "make a /d- file", "ok", "make a /d.e dir", "ok", "make a /d/z file", "ok", "make a /d/e dir", "ok")
	s.has("tree", "/d/ /d/e/ /d/z /d- /d.e/", "make b /d/e/x file", "sent", "tree", "/d/ /d/e/ /d/z /d- /d.e/", "go 0", "did", "tree", "/d/ /d/e/ /d/e/x /d/z /d- /d.e/", "go 0", "ok")
	s.asks("make a /D file", "ok", "make a /d0 dir", "ok", "make a /d0/d dir", "ok", "make a /d.e/d file", "ok", "rm b /d-", "ok")
	s.has("tree", "/D /d/ /d/e/ /d/e/x /d/z /d.e/ /d.e/d /d0/ /d0/d/")
	s.plays(t)
	played(t, "make a /f file", "sent", "go 0", "did", "go 0", "ok", "tree", "/f", "rm a /f", "sent", "go 0", "did", "go 0", "ok", "tree", "nothing")
}

// P200: paths of up to 12 names; one of more is none.
func TestDeepest(t *testing.T) {
	s := &sheet{}
	var path, all string
	for i := range 12 {
		path += "/" + strings.Repeat(string([]byte{'a' + byte(i)}), 24)
		all += " " + path + "/"
		s.asks("make a "+path+" dir", "ok")
	}
	s.has("tree", all[1:])
	s.asks("ls a "+path, "nothing", "stat b "+path, "dir 0 2", "read c "+path+" 0 1", isFile, "write c "+path+" 0 x", isFile, "rm a "+path, "ok", "make a "+path+" file", "ok", "write a "+path+" 0 xyz", "ok", "read a "+path+" 1 9", "yz")
	s.plays(t)
	for _, line := range []string{"make a P dir", "make a P file", "rm a P", "write a P 0 x", "read a P 0 1", "ls a P", "stat a P"} {
		played(t, strings.Replace(line, "P", path+"/m", 1), isText, strings.Replace(line, "P", strings.Repeat("/m", 13), 1), isText, strings.Replace(line, "P", strings.Repeat("/m", 12), 1), "sent", "net", "1")
	}
}

// P200: three callers; each waits for one reply, and calls no more until it heard it.
func TestCallers(t *testing.T) {
	played(t,
		"again a", isNone, "make a /d dir", "sent", "stat a /", isHeld, "make a /d dir", isHeld, "stat b /", "sent", "ls b /", isHeld, "stat c /d", "sent", "rm c /d", isHeld, "net", "3",
		"again a", "sent", "again c", "sent", "net", "5",
		"go 1", "did", "go 0", "did", "go 0", "did", "net", "5", "stat a /", isHeld, "stat b /", isHeld,
		"go 2", "dir 0 2", "again b", isNone, "stat b /", "sent", "go 2", "ok", "go 2", "dir 0 2", "again a", isNone, "again c", isNone, "net", "3",
		"go 0", "kept", "go 0", "kept", "go 0", "did", "go 0", "late", "go 0", "late", "go 0", "dir 1 3", "go 0", isNone,
	)
}

// P200: what a caller could not call is not what its reply says.
func TestHeldCallIsForgotten(t *testing.T) {
	played(t,
		"make a /f file", "sent", "stat a /", isHeld, "read a /f 0 1", isHeld, "ls a /", isHeld, "go 0", "did", "ls a /", isHeld, "go 0", "ok",
		"write a /f 0 hey", "sent", "stat a /f", isHeld, "go 0", "did", "go 0", "ok", "read a /f 0 9", "sent", "ls a /", isHeld, "stat a /f", isHeld, "go 0", "did", "rm a /f", isHeld, "go 0", "hey",
		"ls a /", "sent", "stat a /", isHeld, "go 0", "did", "read a /f 0 1", isHeld, "again a", "sent", "go 0", "f", "go 0", "kept", "go 0", "late",
		"stat b /", "sent", "ls b /", isHeld, "go 0", "did", "make b /g file", isHeld, "go 0", "dir 1 2", "tree", "/f",
	)
}

// P200: again sends what waits, done or not; what was heard waits no more.
func TestAgain(t *testing.T) {
	played(t,
		"make a /f file", "sent", "drop 0", "ok", "again a", "sent", "again a", "sent", "net", "2", "go 1", "did", "go 0", "kept", "drop 0", "ok", "drop 0", "ok",
		"again a", "sent", "go 0", "kept", "again a", "sent", "go 0", "ok", "again a", isNone, "go 0", "kept", "go 0", "late",
		"again b", isNone, "rm b /f", "sent", "again b", "sent", "again a", isNone, "go 1", "did", "tree", "nothing", "go 1", "ok", "go 0", "kept", "go 0", "late", "tree", "nothing",
	)
}

// P200: go, drop and twice are by numbers from 0 on, of what is on its way; they tell that there is none.
func TestOnTheWay(t *testing.T) {
	for _, verb := range []string{"go", "drop", "twice"} {
		for _, n := range []string{"0", "1", "2", "9", "10", "99", "100", "99999"} {
			played(t, verb+" "+n, isNone, "net", "0", "again a", isNone, "tree", "nothing")
		}
		for _, n := range []string{"3", "4", "10", "12345", "99999"} {
			played(t, "make a /a dir", "sent", "make b /b dir", "sent", "make c /c dir", "sent", verb+" "+n, isNone, "net", "3", "tree", "nothing")
		}
	}
	played(t,
		"make a /a dir", "sent", "make b /b dir", "sent", "make c /c dir", "sent", "twice 1", "ok", "net", "4",
		"drop 0", "ok", "net", "3", "go 2", "did", "tree", "/c/", "go 1", "did", "tree", "/b/ /c/", "go 0", "kept", "tree", "/b/ /c/", "net", "3",
		"go 0", "ok", "go 1", "ok", "drop 1", isNone, "go 0", "late", "net", "0",
		"again a", "sent", "twice 0", "ok", "twice 1", "ok", "net", "3", "drop 2", "ok", "drop 0", "ok", "go 0", "did", "twice 0", "ok", "drop 0", "ok", "go 0", "ok", "tree", "/a/ /b/ /c/",
	)
}

// P200: what is there a second time stands right behind itself; what happened to one does not happen to the other.
func TestTwice(t *testing.T) {
	played(t,
		"make a /a dir", "sent", "make b /b dir", "sent", "twice 0", "ok", "go 2", "did", "tree", "/b/", "go 1", "did", "tree", "/a/ /b/", "go 0", "kept", "net", "3",
		"go 0", "ok", "twice 0", "ok", "go 0", "ok", "go 0", "late", "go 0", "late", "net", "0",
	)
}

// P200: up to 100 messages can be on their way.
func TestMessages(t *testing.T) {
	s := &sheet{}
	s.has("ls a /", "sent")
	s.has(slices.Repeat([]string{"twice 0", "ok"}, 97)...)
	s.has("go 97", "did", "net", "98")
	s.plays(t)
	s = &sheet{}
	s.has("ls a /", "sent")
	s.has(slices.Repeat([]string{"again a", "sent"}, 98)...)
	s.has("net", "99")
	s.plays(t)
}

// P200: a caller tells that a message is none that it waits for: heard already, or of an earlier call; it is gone all the same.
func TestLate(t *testing.T) {
	played(t,
		"make a /f file", "sent", "go 0", "did", "twice 0", "ok", "twice 0", "ok", "go 0", "ok", "go 0", "late", "net", "1",
		"stat a /f", "sent", "go 0", "late", "net", "1", "go 0", "did", "go 0", "file 0 1", "net", "0",
		"rm a /g", "sent", "twice 0", "ok", "go 0", "did", "go 1", isNone, "ls a /", "sent", "go 0", "kept", "go 1", "late", "go 0", "did", "twice 0", "ok", "go 0", "f", "go 0", "late", "net", "0",
	)
}

// P200: a call whose compound is longer than the wire, or whose request is, is not sent, and waits for nothing: by a byte.
func TestLongestCall(t *testing.T) {
	const most = 4000 - 12 - 4 - (84 + 4) - (84 + 8 + 4) - (84 + 8) // of the request: its ID and size; how many ops; root; lookup of /f; write
	longest := strings.Repeat("x", most)
	asked(t, "make a /f file", "ok", "write a /f 0 "+longest, "ok", "stat a /f", "file 3708 1", "write a /f 7 "+longest, "ok", "stat b /f", "file 3715 1")
	for _, more := range []int{1, 4, 8, 12, 13, 100, 4000, 1 << 20} {
		played(t, "write a /f 0 "+longest+strings.Repeat("x", more), isFull, "net", "0", "again a", isNone, "ls a /", "sent", "go 0", "did", "go 0", "nothing")
	}
	played(t, "ls a /", "sent", "write a /f 0 "+longest+strings.Repeat("x", 13), isFull, "write a /f 0 "+longest+strings.Repeat("x", 12), isHeld, "net", "1", "go 0", "did", "go 0", "nothing")
}

// P201: a reply that does not go on the wire says so: by a byte.
func TestLongestReply(t *testing.T) {
	const most = 4000 - 12 - 4 - 3*84 // of the reply: its ID and size; how many replies; root, lookup of /f, read
	s := &sheet{}
	s.asks("make a /f file", "ok", "write a /f 4000 x", "ok", "read a /f 0 "+numeral(most), strings.Repeat("\x00", most), "read a /f 0 "+numeral(most+1), isFull, "read a /f 0 99999", isFull, "read b /f 9 "+numeral(most), strings.Repeat("\x00", most), "read c /f 3000 99999", strings.Repeat("\x00", 1000)+"x")
	s.has("read a /f 0 4000", "sent", "twice 0", "ok", "go 0", "did", "go 0", "kept", "go 0", isFull, "go 0", "late")
	s.plays(t)
}

func numeral(n int) string {
	var s string
	for ; n > 0; n /= 10 {
		s = string([]byte{'0' + byte(n%10)}) + s
	}
	return s
}

// P200: the listener keeps what it answered to the last 20 requests. One that 20 others were behind is not known any more.
func TestKeepsReplies(t *testing.T) {
	for _, c := range []struct {
		others       int
		again, reply string
	}{{0, "kept", "ok"}, {1, "kept", "ok"}, {18, "kept", "ok"}, {19, "kept", "ok"}, {20, "did", isExist}, {21, "did", isExist}} {
		s := &sheet{}
		s.has("make a /d dir", "sent", "go 0", "did", "drop 0", "ok")
		for i := range c.others {
			s.asks([]string{"ls b /", "stat c /d"}[i%2], []string{"d", "dir 0 2"}[i%2])
		}
		s.has("again a", "sent", "go 0", c.again, "go 0", c.reply, "tree", "/d/")
		s.plays(t)
	}
}

// P200: a net, a server and callers are a script's own: nothing is there from the one ahead.
func TestEachOnItsOwn(t *testing.T) {
	for range 3 {
		played(t, "net", "0", "tree", "nothing", "again a", isNone, "make a /d dir", "sent", "make b /e dir", "sent", "go 0", "did", "tree", "/d/", "net", "2")
	}
}

// P2: scripts that are run side by side do not see each other.
func TestSideBySide(t *testing.T) {
	lines := []string{"make a /d dir", "twice 0", "go 0", "go 0", "go 0", "go 0", "make b /d/f file", "go 0", "write c /d/f 3 abc", "again c", "go 0", "tree", "net", "what"}
	want := runs(t, lines)
	var wait sync.WaitGroup
	for range 8 {
		wait.Go(func() {
			for range 20 {
				if got, err := script.Run(lines); !slices.Equal(got, want) || err != nil {
					t.Errorf("%q, %v", got, err)
				}
			}
		})
	}
	wait.Wait()
}

// P4: lines are only read, what lies behind them not even that; answers are new.
func TestLinesAreOnlyRead(t *testing.T) {
	all := []string{"make a /d dir", "go 0", "go 0", "tree", "tree", "what"}
	before := slices.Clone(all)
	want := []string{"sent", "did", "ok", "/d/"}
	first := runs(t, all[:4])
	if !slices.Equal(first, want) {
		t.Fatalf("%q", first)
	}
	second := runs(t, all[:4])
	for i := range first {
		first[i] = "other"
	}
	_ = append(first, "other", "other")
	if !slices.Equal(all, before) || !slices.Equal(second, want) || !slices.Equal(runs(t, all[:4]), want) {
		t.Errorf("%q, %q", all, second)
	}
}

// What README.md says.
func TestReadme(t *testing.T) {
	played(t, "make a /docs dir", "sent", "twice 0", "ok", "go 0", "did", "go 0", "kept", "go 0", "ok", "go 0", "late", "ls b /", "sent", "drop 0", "ok", "again b", "sent", "go 0", "did", "go 0", "docs", "tree", "/docs/", "make a / dir", isText)
}
