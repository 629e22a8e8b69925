package script_test

import (
	"strings"
	"testing"
)

// good lines, of each form, and what an empty net and server answer.
var good = map[string]string{
	"make a /x file": "sent", "make b /x/y dir": "sent", "rm a /x": "sent", "rm c /x/y": "sent", "write a /x 0 t": "sent", "write b / 7 T9": "sent", "read a /x 0 1": "sent", "read c / 99999 99999": "sent",
	"ls a /": "sent", "ls b /x/y": "sent", "stat a /": "sent", "stat c /x": "sent", "again a": isNone, "go 0": isNone, "drop 7": isNone, "twice 10": isNone, "net": "0", "tree": "nothing",
}

// none: a line that is none, and does nothing.
func none(t *testing.T, lines ...string) {
	t.Helper()
	for _, line := range lines {
		played(t, line, isText, "net", "0", "tree", "nothing", "again a", isNone, "again b", isNone, "again c", isNone)
	}
}

// P200: lines of each form are commands.
func TestForms(t *testing.T) {
	for line, want := range good {
		played(t, line, want)
	}
}

// P200, P201: one blank between words, none ahead nor behind, no other sign in its place, no word less, none more.
func TestBlanks(t *testing.T) {
	none(t, "", " ", "  ", "\n", "\x00", "\t", "what", "nett", "ne", "trees", "net net", "tree /")
	for line := range good {
		none(t, " "+line, line+" ", line+"\n", "\n"+line, line+"\x00", line+" x", line+" 0", line+" a", line+" /", line+" file", line+"\r\n", line+" "+line, line+"\n"+line, strings.ToUpper(line[:1])+line[1:], strings.ToUpper(line))
		words := strings.Split(line, " ")
		if len(words) == 1 {
			continue
		}
		for _, other := range []string{"  ", "\t", "\n", "", ",", "\x00", "\u00a0", " \t"} {
			none(t, strings.ReplaceAll(line, " ", other), strings.Replace(line, " ", other, 1))
		}
		for i := range words {
			less := append(append([]string{}, words[:i]...), words[i+1:]...)
			empty := append(append(append([]string{}, words[:i]...), ""), words[i+1:]...)
			none(t, strings.Join(less, " "), strings.Join(words[:i], " "), strings.Join(empty, " "))
		}
	}
}

// P200: callers are a, b and c alone.
func TestWho(t *testing.T) {
	for _, who := range []string{"", "d", "A", "aa", "ab", "server", "0", "/", "a,", "\x00", "ä"} {
		none(t, "make "+who+" /x file", "rm "+who+" /x", "write "+who+" /x 0 t", "read "+who+" /x 0 1", "ls "+who+" /", "stat "+who+" /", "again "+who)
	}
	for _, who := range []string{"a", "b", "c"} {
		for _, line := range []string{"make W /x file", "rm W /x", "write W /x 0 t", "read W /x 0 1", "ls W /", "stat W /"} {
			played(t, strings.Replace(line, "W", who, 1), "sent", "again "+who, "sent", "net", "2")
		}
	}
}

// P200: paths as names has them; make and rm have one behind the root.
func TestPaths(t *testing.T) {
	forms := []string{"make a P file", "make a P dir", "rm a P", "write a P 0 t", "read a P 0 1", "ls a P", "stat a P"}
	long := strings.Repeat("x", 24)
	for _, form := range forms {
		for _, path := range []string{"", "x", "x/y", "//", "/x/", "/x//y", "//x", "/.", "/..", "/x/..", "/x/../y", "/./x", "/x/.", "/x,y", "/x*", "/é", "/x\x00", "/\xff", "/x y", "/" + long + "x", "/x/" + long + "x", "\\x", "x/", "-", "/x:", "/x\n", "/~", strings.Repeat("/x", 1000), "/" + strings.Repeat("x", 1<<20)} {
			none(t, strings.Replace(form, "P", path, 1))
		}
		for _, path := range []string{"/x", "/X9.-_", "/...", "/-", "/_", "/.x", "/0", "/" + long, "/" + long + "/" + long, "/x/y/z", "/a/b/c/d/e/f/g/h/i/j/k/l"} {
			played(t, strings.Replace(form, "P", path, 1), "sent", "net", "1")
		}
	}
	none(t, "make a / file", "make b / dir", "rm c /")
	played(t, "write a / 0 t", "sent", "read b / 0 1", "sent", "ls c /", "sent")
	played(t, "stat a /", "sent")
}

// P200: kinds are file and dir.
func TestKinds(t *testing.T) {
	for _, kind := range []string{"", "link", "File", "DIR", "directory", "files", "f", "1", "2", "file ", "dir/", "file,dir", "filedir"} {
		none(t, "make a /x "+kind)
	}
}

// P200: numbers are digits, at most five, without needless zeros.
func TestNumbers(t *testing.T) {
	forms := []string{"write a /x N t", "read a /x N 1", "read a /x 1 N", "go N", "drop N", "twice N"}
	for _, form := range forms {
		for _, n := range []string{"", "00", "01", "007", "00000", "000000", "099999", "100000", "999999", "1000000", "-1", "-0", "+0", "+1", "1.0", "1e3", "0x1", "0b1", "0o1", "1_0", "x", "a", "/", "½", "٣", "1,", ",1", "1\n", "4294967296", "18446744073709551616", "18446744073709551617", strings.Repeat("9", 100), strings.Repeat("0", 1<<16)} {
			none(t, strings.Replace(form, "N", n, 1))
		}
		for _, n := range []string{"0", "1", "9", "10", "100", "1000", "10000", "12345", "99999"} {
			if strings.Contains(form, "a") {
				played(t, strings.Replace(form, "N", n, 1), "sent")
			}
		}
	}
}

// P200: what is written is letters and digits, some.
func TestTexts(t *testing.T) {
	for _, text := range []string{"", "-", "a-b", "a.b", "_", "a_", ".a", "a/b", "/", "é", "aé", "\x00", "a\x00", "\xff", "a,b", "a\tb", "a\nb", "\"a\"", "a b", "²", "ß", "[", "`", "{", "@", ":", "/9"} {
		none(t, "write a /x 0 "+text)
	}
	const all = "abcdefghijklmnopqrstuvwxyzABCDEFGHIJKLMNOPQRSTUVWXYZ0123456789"
	asked(t, "make a /x file", "ok", "write a /x 0 "+all, "ok", "read a /x 0 99", all, "write a /x 0 Z", "ok", "read a /x 0 99", "Z"+all[1:])
	for i := range 256 {
		sign := string([]byte{byte(i)})
		if strings.Contains(all, sign) {
			played(t, "write a /x 0 "+sign, "sent", "write b /x 0 a"+sign, "sent", "write c /x 0 "+sign+"a", "sent")
		} else {
			none(t, "write a /x 0 "+sign, "write a /x 0 a"+sign, "write a /x 0 "+sign+"a", "write a /x 0 a"+sign+"a")
		}
	}
}

// P201: a line that is none changes nothing that is on its way, nor what a caller waits for.
func TestNoneBetween(t *testing.T) {
	s := &sheet{}
	s.has("make a /d dir", "sent")
	for _, line := range []string{"make a / dir", "make a /d link", "go 00", "go", "drop 00", "twice -1", "again d", "again", "ls a", "stat a /d/", "read a /d 0", "write a /d 0 a-b", "net 0", "tree /"} {
		s.has(line, isText)
	}
	s.has("net", "1", "go 0", "did", "", isText, "go 0", "ok", "tree", "/d/")
	s.plays(t)
}
