package script

import (
	"strconv"
	"strings"

	"pigeonholes/api"
	"pigeonholes/call"
	"pigeonholes/net"
	"pigeonholes/serve"
)

// serverName is who all requests are for.
const serverName = "server"

// player of a script.
type player struct {
	net.Net
	server   *serve.Server
	listener *call.Listener
	callers  map[string]*caller
}

// command of a script: its words behind the first one are read one by one, and what they tell is done.
type command struct {
	words []reader
	do    func(args) (string, error)
}

func newPlayer() (*player, error) {
	server, err := serve.New(api.MaxNodes)
	if err != nil {
		return nil, err
	}
	listener, err := call.NewListener(serverName, server, api.MaxReplies)
	if err != nil {
		return nil, err
	}
	p := &player{server: server, listener: listener, callers: map[string]*caller{}}
	for _, name := range []string{"a", "b", "c"} {
		c, err := call.NewCaller(name, serverName)
		if err != nil {
			return nil, err
		}
		p.callers[name] = &caller{Caller: c}
	}
	return p, nil
}

// commands by their first words.
func (p *player) commands() map[string]command {
	return map[string]command{
		"make":  {[]reader{p.isCaller, isPathBelow, isKind}, p.asks(makeOp, sayOk)},
		"rm":    {[]reader{p.isCaller, isPathBelow}, p.asks(removeOp, sayOk)},
		"write": {[]reader{p.isCaller, isPath, isAt, isText}, p.asks(writeOp, sayOk)},
		"read":  {[]reader{p.isCaller, isPath, isAt, isCount}, p.asks(readOp, sayText)},
		"ls":    {[]reader{p.isCaller, isPath}, p.asks(listOp, sayNames)},
		"stat":  {[]reader{p.isCaller, isPath}, p.asks(attrOp, sayAttr)},
		"again": {[]reader{p.isCaller}, p.again},
		"go":    {[]reader{isAt}, p.move},
		"drop":  {[]reader{isAt}, okOf(p.Drop)},
		"twice": {[]reader{isAt}, okOf(p.Twice)},
		"net":   {nil, p.howMany},
		"tree":  {nil, p.tree},
	}
}

// play a line.
func (p *player) play(line string) (string, error) {
	words := strings.Split(line, " ")
	c, known := p.commands()[words[0]]
	if !known {
		return "", api.ErrText
	}
	a, err := readArgs(c.words, words[1:])
	if err != nil {
		return "", err
	}
	return c.do(a)
}

// isCaller: of a caller's name.
func (p *player) isCaller(a *args, word string) bool {
	a.who = p.callers[word]
	return a.who != nil
}

func (p *player) again(a args) (string, error) {
	if err := a.who.Again(&p.Net); err != nil {
		return "", err
	}
	return "sent", nil
}

// move a message to who it is for. Callers alone send requests, so a reply is for one of them.
func (p *player) move(a args) (string, error) {
	m, err := p.Take(a.at)
	if err != nil {
		return "", err
	}
	if m.To != serverName {
		return p.callers[m.To].hear(m)
	}
	did, err := p.listener.Hear(&p.Net, m)
	if err != nil {
		return "", err
	}
	if did {
		return "did", nil
	}
	return "kept", nil
}

// okOf makes a command of what happens to a message.
func okOf(change func(at int) error) func(args) (string, error) {
	return func(a args) (string, error) {
		if err := change(a.at); err != nil {
			return "", err
		}
		return "ok", nil
	}
}

func (p *player) howMany(args) (string, error) {
	return strconv.Itoa(len(p.List())), nil
}

func (p *player) tree(args) (string, error) {
	paths, err := p.pathsIn(p.server.Tree().Root(), "/")
	if err != nil {
		return "", err
	}
	return orNothing(strings.Join(paths, " ")), nil
}

// pathsIn a directory, whose own path ends with a "/".
func (p *player) pathsIn(dir api.Handle, above string) ([]string, error) {
	tree := p.server.Tree()
	l, _, err := tree.List(dir, 0, api.MaxEntries)
	if err != nil {
		return nil, err
	}
	var paths []string
	for _, e := range l {
		about, err := tree.Attr(e.H)
		if err != nil {
			return nil, err
		}
		if about.Kind != api.Dir {
			paths = append(paths, above+e.Name)
			continue
		}
		own := above + e.Name + "/"
		below, err := p.pathsIn(e.H, own)
		if err != nil {
			return nil, err
		}
		paths = append(append(paths, own), below...)
	}
	return paths, nil
}

func orNothing(s string) string {
	if s == "" {
		return "nothing"
	}
	return s
}
