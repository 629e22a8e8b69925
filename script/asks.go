package script

import (
	"strconv"
	"strings"

	"pigeonholes/api"
	"pigeonholes/attr"
	"pigeonholes/call"
	"pigeonholes/net"
	"pigeonholes/plain"
	"pigeonholes/serve"
	"pigeonholes/wire"
)

// statMask asks for kind, size and links.
const statMask = 7

// caller, who knows what the reply that it waits for is asked.
type caller struct {
	*call.Caller
	say sayer
}

// sayer of what a reply without an error says.
type sayer func(serve.Reply) (string, error)

// asks makes a command: a caller asks for one op where a path leads.
func (p *player) asks(op func(args) serve.Op, say sayer) func(args) (string, error) {
	return func(a args) (string, error) {
		text, err := wire.Ops(append(lookups(a.path), op(a)))
		if err != nil {
			return "", err
		}
		if _, err := a.who.Call(&p.Net, text); err != nil {
			return "", err
		}
		a.who.say = say // not ahead of the Call: a reply that is waited for already says what was asked then
		return "sent", nil
	}
}

// lookups from the root.
func lookups(path []string) []serve.Op {
	l := []serve.Op{{Kind: "root"}}
	for _, name := range path {
		l = append(l, serve.Op{Kind: "lookup", Name: name})
	}
	return l
}

func makeOp(a args) serve.Op { return serve.Op{Kind: "make", Name: a.name, A: a.kind} }

func removeOp(a args) serve.Op { return serve.Op{Kind: "remove", Name: a.name} }

func writeOp(a args) serve.Op { return serve.Op{Kind: "write", A: a.at, Text: a.text} }

func readOp(a args) serve.Op { return serve.Op{Kind: "read", A: a.at, B: a.count} }

func listOp(args) serve.Op { return serve.Op{Kind: "list", B: api.MaxEntries} }

func attrOp(args) serve.Op { return serve.Op{Kind: "attr", A: statMask} }

// hear a message: what its reply says, the last one of its ops' telling for all.
func (c *caller) hear(m net.Message) (string, error) {
	text, is := c.Hear(m)
	if !is {
		return "late", nil
	}
	l, err := wire.ReadReplies(text)
	if err != nil {
		return "", err
	}
	last := l[len(l)-1] // no compound that is asked is empty
	if err := errorOf(last.Code); err != nil {
		return "", err
	}
	return c.say(last)
}

func sayOk(serve.Reply) (string, error) { return "ok", nil }

func sayText(r serve.Reply) (string, error) { return orNothing(r.Text), nil }

func sayNames(r serve.Reply) (string, error) {
	var l []string
	for _, e := range r.L {
		l = append(l, e.Name)
	}
	return orNothing(strings.Join(l, " ")), nil
}

func sayAttr(r serve.Reply) (string, error) {
	a, _, err := attr.Decode(r.Text)
	if err != nil {
		return "", err
	}
	word := fileWord
	if a.Kind == api.Dir {
		word = dirWord
	}
	return word + " " + strconv.Itoa(a.Size) + " " + strconv.Itoa(a.Links), nil
}

// errorOf a code, as plain tells it; nil of 0. A server tells no others.
func errorOf(code int) error {
	for _, err := range []error{nil, api.ErrText, api.ErrBound, api.ErrShape, api.ErrName, api.ErrNone, api.ErrExist, api.ErrDir, api.ErrFile, api.ErrFull, api.ErrStale, api.ErrHeld, api.ErrSeq, api.ErrOld, api.ErrGrace, api.ErrPower} {
		if known, _ := plain.Code(err); known == code {
			return err
		}
	}
	return api.ErrText
}
