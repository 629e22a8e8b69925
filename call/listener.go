package call

import (
	"pigeonholes/api"
	"pigeonholes/cache"
	"pigeonholes/names"
	"pigeonholes/net"
	"pigeonholes/plain"
	"pigeonholes/serve"
	"pigeonholes/wire"
)

// memory of requests and their replies, as these went on the wire: a cache, under a name that is none of a listener's exported fields.
type memory struct{ *cache.Cache }

// Listener of a server.
type Listener struct {
	memory
	name   string
	server *serve.Server
}

// NewListener by a name.
func NewListener(name string, s *serve.Server, most int) (*Listener, error) {
	if err := names.Check(name); err != nil {
		return nil, err
	}
	if s == nil {
		return nil, api.ErrShape
	}
	c, err := cache.New(most)
	if err != nil {
		return nil, err
	}
	return &Listener{memory: memory{c}, name: name, server: s}, nil
}

// Hear a message.
func (l *Listener) Hear(n *net.Net, m net.Message) (did bool, err error) {
	if m.To != l.name {
		return false, nil
	}
	r, err := Decode(m.Text)
	if err != nil {
		return false, nil
	}
	reply, did, err := l.once(m.From, r, l.answer)
	if err != nil {
		return false, nil
	}
	if err := n.Send(net.Message{From: l.name, To: m.From, Text: reply}); err != nil {
		return false, err
	}
	return did, nil
}

// once answers a request that is not known, and keeps the reply ahead of its being sent: it may be lost on the way, and must not be done anew for that.
func (m memory) once(client string, r Request, answer func(Request) string) (reply string, did bool, err error) {
	reply, known, err := m.Look(client, r.ID, r.Text)
	if known || err != nil {
		return reply, false, err
	}
	reply = answer(r)
	return reply, true, m.Keep(client, r.ID, r.Text, reply)
}

// answer to a request, on the wire: what was done stays done, also where its replies do not go there.
func (l *Listener) answer(r Request) string {
	s, err := encodeReplies(r.ID, l.do(r.Text))
	if err != nil {
		s, _ = encodeReplies(r.ID, refusal(api.ErrFull))
	}
	return s
}

// do what a request asks for.
func (l *Listener) do(text string) []serve.Reply {
	ops, err := wire.ReadOps(text)
	if err != nil {
		return refusal(err)
	}
	replies, err := l.server.Compound(ops)
	if err != nil {
		return refusal(err)
	}
	return replies
}

// encodeReplies to a request.
func encodeReplies(id int, l []serve.Reply) (string, error) {
	text, err := wire.Replies(l)
	if err != nil {
		return "", err
	}
	return Encode(Request{ID: id, Text: text})
}

// refusal of a whole compound.
func refusal(err error) []serve.Reply {
	code, _ := plain.Code(err)
	return []serve.Reply{{Code: code}}
}
