package script_test

import (
	"maps"
	"regexp"
	"slices"
	"strconv"
	"strings"
)

// book plays a script by the words of P200 and P201 alone, and of what they lean on: directories and files without times and bounds that no script comes to, messages that are no texts, and how long those would be.
type book struct {
	root  *node
	way   []message
	who   map[string]*party
	known []message // requests that the server keeps, the one that was kept first ahead, with what they were answered
}

type node struct {
	isDir bool
	bytes string
	in    map[string]*node
}

// message is a request, or a reply if it is not to the server.
type message struct {
	from, to string
	id       int
	ask      *ask
	answer   string
}

// party: a caller; what it waits for, if it does.
type party struct {
	id      int
	waiting *message
}

// ask of a caller: a command as it was written.
type ask struct {
	verb  string
	names []string // that are looked up
	name  string
	isDir bool
	at, n int
	text  string
}

func newBook() *book {
	return &book{root: &node{isDir: true, in: map[string]*node{}}, who: map[string]*party{"a": {}, "b": {}, "c": {}}}
}

// run all lines.
func (b *book) run(lines []string) []string {
	var answers []string
	for _, line := range lines {
		answers = append(answers, b.line(line))
	}
	return answers
}

var (
	ofMake  = regexp.MustCompile(`^(make) ([abc]) (/.+) (file|dir)$`)
	ofRm    = regexp.MustCompile(`^(rm) ([abc]) (/.+)$`)
	ofWrite = regexp.MustCompile(`^(write) ([abc]) (/.*) (0|[1-9][0-9]{0,4}) ([A-Za-z0-9]+)$`)
	ofRead  = regexp.MustCompile(`^(read) ([abc]) (/.*) (0|[1-9][0-9]{0,4}) (0|[1-9][0-9]{0,4})$`)
	ofLook  = regexp.MustCompile(`^(ls|stat) ([abc]) (/.*)$`)
	ofAgain = regexp.MustCompile(`^again ([abc])$`)
	ofWay   = regexp.MustCompile(`^(go|drop|twice) (0|[1-9][0-9]{0,4})$`)
	ofName  = regexp.MustCompile(`^[A-Za-z0-9._-]{1,24}$`)
)

func (b *book) line(line string) string {
	switch {
	case line == "net":
		return strconv.Itoa(len(b.way))
	case line == "tree":
		return some(strings.Join(b.root.paths("/"), " "))
	case ofAgain.MatchString(line):
		return b.again(ofAgain.FindStringSubmatch(line)[1])
	case ofWay.MatchString(line):
		m := ofWay.FindStringSubmatch(line)
		return b.onWay(m[1], number(m[2]))
	}
	for _, form := range []*regexp.Regexp{ofMake, ofRm, ofWrite, ofRead, ofLook} {
		m := form.FindStringSubmatch(line)
		if m == nil {
			continue
		}
		l, is := namesOf(m[3])
		if !is {
			return isText
		}
		return b.call(m[2], askOf(m, l))
	}
	return isText
}

func namesOf(path string) ([]string, bool) {
	if path == "/" {
		return nil, true
	}
	l := strings.Split(path, "/")[1:]
	for _, name := range l {
		if name == "." || name == ".." || !ofName.MatchString(name) {
			return nil, false
		}
	}
	return l, len(l) <= 12
}

func askOf(m, l []string) *ask {
	a := &ask{verb: m[1], names: l}
	switch a.verb {
	case "make":
		a.isDir = m[4] == "dir"
	case "write":
		a.at, a.text = number(m[4]), m[5]
	case "read":
		a.at, a.n = number(m[4]), number(m[5])
	}
	if a.verb == "make" || a.verb == "rm" {
		a.names, a.name = l[:len(l)-1], l[len(l)-1]
	}
	return a
}

func number(s string) int {
	n, err := strconv.Atoi(s)
	if err != nil {
		panic(err)
	}
	return n
}

func some(s string) string {
	if s == "" {
		return "nothing"
	}
	return s
}

// call of a caller: the compound must go on the wire, then the caller must be free, then the request must go on the wire.
func (b *book) call(who string, a *ask) string {
	p, size := b.who[who], a.size()
	switch {
	case size > 4000:
		return isFull
	case p.waiting != nil:
		return isHeld
	case size+12 > 4000:
		return isFull
	}
	p.id++
	p.waiting = &message{from: who, to: "server", id: p.id, ask: a}
	return b.send(*p.waiting)
}

func (b *book) again(who string) string {
	if b.who[who].waiting == nil {
		return isNone
	}
	return b.send(*b.who[who].waiting)
}

func (b *book) send(m message) string {
	b.way = append(b.way, m)
	return "sent"
}

func (b *book) onWay(verb string, n int) string {
	if n >= len(b.way) {
		return isNone
	}
	m := b.way[n]
	if verb == "twice" {
		b.way = slices.Insert(b.way, n, m)
		return "ok"
	}
	b.way = slices.Delete(b.way, n, n+1)
	switch {
	case verb == "drop":
		return "ok"
	case m.to == "server":
		return b.serves(m)
	}
	p := b.who[m.to]
	if p.waiting == nil || p.id != m.id {
		return "late"
	}
	p.waiting = nil
	return m.answer
}

// serves a request, unless it is one of the last 20.
func (b *book) serves(m message) string {
	for _, k := range b.known {
		if k.from == m.from && k.id == m.id {
			b.send(message{from: "server", to: k.from, id: k.id, answer: k.answer})
			return "kept"
		}
	}
	m.answer = b.done(m.ask)
	b.known = append(b.known, m)
	if len(b.known) > 20 {
		b.known = b.known[1:]
	}
	b.send(message{from: "server", to: m.from, id: m.id, answer: m.answer})
	return "did"
}

// done, and told.
func (b *book) done(a *ask) string {
	n := b.root
	for _, name := range a.names {
		if !n.isDir {
			return isDir
		}
		if n.in[name] == nil {
			return isNone
		}
		n = n.in[name]
	}
	switch a.verb {
	case "make":
		return n.make(a.name, a.isDir)
	case "rm":
		return n.remove(a.name)
	case "write":
		return n.write(a.at, a.text)
	case "read":
		return n.read(a.at, a.n, len(a.names))
	case "ls":
		return n.list(len(a.names))
	}
	return n.stat()
}

func (n *node) make(name string, isADir bool) string {
	if !n.isDir {
		return isDir
	}
	if n.in[name] != nil {
		return isExist
	}
	n.in[name] = &node{isDir: isADir, in: map[string]*node{}}
	return "ok"
}

func (n *node) remove(name string) string {
	switch {
	case !n.isDir:
		return isDir
	case n.in[name] == nil:
		return isNone
	case len(n.in[name].in) > 0:
		return isHeld
	}
	delete(n.in, name)
	return "ok"
}

func (n *node) write(at int, text string) string {
	if n.isDir {
		return isFile
	}
	if at+len(text) > 4096 {
		return isBound
	}
	all := n.bytes + strings.Repeat("\x00", max(0, at+len(text)-len(n.bytes)))
	n.bytes = all[:at] + text + all[at+len(text):]
	return "ok"
}

func (n *node) read(at, many, deep int) string {
	if n.isDir {
		return isFile
	}
	at = min(at, len(n.bytes))
	s := n.bytes[at:min(at+many, len(n.bytes))]
	if replySize(deep)+padded(s) > 4000 {
		return isFull
	}
	return some(s)
}

func (n *node) list(deep int) string {
	if !n.isDir {
		return isDir
	}
	l := slices.Sorted(maps.Keys(n.in))
	size := replySize(deep)
	for _, name := range l {
		size += 4 + padded(name) + 24
	}
	if size > 4000 {
		return isFull
	}
	return some(strings.Join(l, " "))
}

func (n *node) stat() string {
	if !n.isDir {
		return "file " + strconv.Itoa(len(n.bytes)) + " 1"
	}
	links := 2
	for _, below := range n.in {
		if below.isDir {
			links++
		}
	}
	return "dir " + strconv.Itoa(len(n.in)) + " " + strconv.Itoa(links)
}

func (n *node) paths(above string) []string {
	var l []string
	for _, name := range slices.Sorted(maps.Keys(n.in)) {
		below := n.in[name]
		if !below.isDir {
			l = append(l, above+name)
			continue
		}
		l = append(l, above+name+"/")
		l = append(l, below.paths(above+name+"/")...)
	}
	return l
}

// padded: how many bytes those of s are on the wire, but for how many they are.
func padded(s string) int { return (len(s) + 3) / 4 * 4 }

// size of a compound on the wire: how many ops, and of each three texts and six numbers, of 12 bytes each.
func (a *ask) size() int {
	kind := map[string]string{"rm": "remove", "ls": "list", "stat": "attr"}[a.verb]
	if kind == "" {
		kind = a.verb
	}
	const op = 3*4 + 6*12
	size := 4 + op + padded("root") + op + padded(kind) + padded(a.name) + padded(a.text)
	for _, name := range a.names {
		size += op + padded("lookup") + padded(name)
	}
	return size
}

// replySize of a reply on the wire, without texts and entries: its ID, how many bytes, how many replies, and of each six numbers, a text, how many entries, and a bool; for root, for lookups, and for one op more.
func replySize(deep int) int { return 8 + 4 + 4 + (2+deep)*(6*12+4+4+4) }
