package call

import (
	"pigeonholes/api"
	"pigeonholes/names"
	"pigeonholes/net"
)

// Caller of a server.
type Caller struct {
	name, server string
	last         int    // ID that was used
	waiting      string // request by that ID, on the wire; empty, as none is there: nothing waits
}

// NewCaller by a name.
func NewCaller(name, server string) (*Caller, error) {
	for _, s := range []string{name, server} {
		if err := names.Check(s); err != nil {
			return nil, err
		}
	}
	return &Caller{name: name, server: server}, nil
}

// Call a server.
func (c *Caller) Call(n *net.Net, text string) (int, error) {
	if c.waits() {
		return 0, api.ErrHeld
	}
	id := c.last + 1
	s, err := Encode(Request{ID: id, Text: text})
	if err != nil {
		return 0, err
	}
	if err := c.send(n, s); err != nil {
		return 0, err
	}
	c.last, c.waiting = id, s
	return id, nil
}

// Again what waits.
func (c *Caller) Again(n *net.Net) error {
	if !c.waits() {
		return api.ErrNone
	}
	return c.send(n, c.waiting)
}

// Hear a message.
func (c *Caller) Hear(m net.Message) (text string, is bool) {
	if !c.waits() || m.From != c.server || m.To != c.name {
		return "", false
	}
	reply, err := Decode(m.Text)
	if err != nil || reply.ID != c.last {
		return "", false
	}
	c.waiting = ""
	return reply.Text, true
}

func (c *Caller) waits() bool { return c.waiting != "" }

func (c *Caller) send(n *net.Net, s string) error {
	return n.Send(net.Message{From: c.name, To: c.server, Text: s})
}
