package serve_test

import (
	"fmt"
	"slices"

	"pigeonholes/api"
	"pigeonholes/attr"
	"pigeonholes/lock"
	"pigeonholes/names"
	"pigeonholes/share"
	"pigeonholes/tree"
)

// held is an open, as a book has it.
type held struct {
	id, seq, client, owner, access, deny int
	file                                 api.Handle
}

// done is the last request of an owner.
type done struct {
	client, owner, seq int
	reply              reply
}

// client by its number; a name may have one that is confirmed, and one that waits.
type client struct {
	id, age   int
	name      string
	confirmed bool
}

// book is a server as P110 to P115 have it, all in lists. Its tree and its locks are those of their packages, which are held against books of their own.
type book struct {
	tree    *tree.Tree
	locks   lock.Table
	opens   []held
	turns   []done
	clients []client
	numbers int // of clients
	ids     int // of opens

	cur, saved *api.Handle
	going      *api.Handle // where a compound that is guessed goes
}

func newBook(most int) *book {
	t, err := tree.New(most)
	if err != nil {
		return nil
	}
	return &book{tree: t}
}

// gone: a client, and all that it had.
func (b *book) gone(id int) {
	for _, o := range slices.Clone(b.opens) {
		if o.client == id {
			b.close(o)
		}
	}
	b.turns = slices.DeleteFunc(b.turns, func(d done) bool { return d.client == id })
	b.clients = slices.DeleteFunc(b.clients, func(c client) bool { return c.id == id })
}

func (b *book) close(o held) {
	b.locks.Drop(o.file, o.id)
	b.opens = slices.DeleteFunc(b.opens, func(x held) bool { return x.id == o.id })
	b.tree.Unpin(o.file)
}

func (b *book) tick(n int) error {
	if n < 0 || n > far {
		return api.ErrBound
	}
	for _, c := range slices.Clone(b.clients) {
		if c.confirmed && c.age+n >= api.Lease {
			b.gone(c.id)
		}
	}
	for i := range b.clients {
		b.clients[i].age += n
	}
	return nil
}

// compound: until an error, whose code is in the last reply.
func (b *book) compound(l []op) []reply {
	var all []reply
	b.cur, b.saved = nil, nil
	for _, x := range l {
		r, err := b.do(x)
		if err != nil {
			r.Code = code(err)
		}
		all = append(all, r)
		if r.Code != 0 {
			break
		}
	}
	return all
}

// needs: does a kind need CUR, SAVED?
func needs(kind string) (cur, saved bool) {
	switch kind {
	case "save", "lookup", "up", "make", "remove", "list", "attr", "handle", "open", "read", "write", "resize":
		return true, false
	case "link", "rename":
		return true, true
	case "restore":
		return false, true
	}
	return false, false
}

func (b *book) do(x op) (reply, error) {
	if cur, saved := needs(x.Kind); cur && b.cur == nil || saved && b.saved == nil {
		return reply{}, api.ErrShape
	}
	switch x.Kind {
	case "root", "save", "restore", "lookup", "up", "make", "handle":
		return b.walk(x)
	case "link":
		return reply{}, b.tree.Link(*b.saved, *b.cur, x.Name)
	case "remove":
		return reply{}, b.tree.Remove(*b.cur, x.Name)
	case "rename":
		return reply{}, b.tree.Rename(*b.saved, x.Name, *b.cur, x.Text)
	case "list":
		l, next, err := b.tree.List(*b.cur, x.A, x.B)
		return reply{L: l, N: next}, err
	case "attr":
		a, err := b.tree.Attr(*b.cur)
		if err != nil {
			return reply{}, err
		}
		text, err := attr.Encode(a, x.A)
		return reply{Text: text}, err
	case "client", "confirm", "renew":
		return b.lease(x)
	case "open", "close", "down":
		return b.inTurn(x)
	case "lock", "test", "unlock":
		return b.lock(x)
	case "read", "write", "resize":
		return b.bytes(x)
	}
	return reply{}, api.ErrText
}

func (b *book) walk(x op) (reply, error) {
	var h api.Handle
	var err error
	switch x.Kind {
	case "root":
		h = b.tree.Root()
	case "save":
		h = *b.cur
		b.saved = &h
		return reply{}, nil
	case "restore":
		h = *b.saved
	case "lookup":
		h, err = b.tree.Lookup(*b.cur, x.Name)
	case "up":
		a, e := b.tree.Attr(*b.cur)
		h, err = a.Up, e
		if e == nil && a.Kind == api.File {
			err = api.ErrDir
		}
	case "make":
		h, err = b.tree.Create(*b.cur, x.Name, x.A)
	case "handle":
		return reply{H: *b.cur}, nil
	}
	if err == nil {
		b.cur = &h
	}
	return reply{}, err
}

// confirmed: the place of a client that is so, or -1.
func (b *book) confirmed(id int) int {
	return slices.IndexFunc(b.clients, func(c client) bool { return c.confirmed && c.id == id })
}

func (b *book) renew(id int) error {
	i := b.confirmed(id)
	if i < 0 {
		return api.ErrNone
	}
	b.clients[i].age = 0
	return nil
}

func (b *book) lease(x op) (reply, error) {
	switch x.Kind {
	case "renew":
		return reply{}, b.renew(x.Client)
	case "client":
		if names.Check(x.Name) != nil {
			return reply{}, api.ErrName
		}
		known := map[string]int{}
		for _, c := range b.clients {
			known[c.name]++
		}
		if known[x.Name] == 0 && len(known) >= api.MaxClients {
			return reply{}, api.ErrFull
		}
		b.clients = slices.DeleteFunc(b.clients, func(c client) bool { return c.name == x.Name && !c.confirmed })
		b.numbers++
		b.clients = append(b.clients, client{id: b.numbers, name: x.Name})
		return reply{N: b.numbers, State: state{ID: b.numbers}}, nil
	}
	i := slices.IndexFunc(b.clients, func(c client) bool { return c.id == x.Client })
	if i < 0 {
		return reply{}, api.ErrNone
	}
	if x.A != x.Client {
		return reply{}, api.ErrShape
	}
	name, first := b.clients[i].name, !b.clients[i].confirmed
	b.clients[i].confirmed, b.clients[i].age = true, 0
	for _, c := range slices.Clone(b.clients) {
		if first && c.confirmed && c.name == name && c.id != x.Client {
			b.gone(c.id)
		}
	}
	return reply{}, nil
}

// turn of an owner: where its last request is, or -1.
func (b *book) turn(x op) int {
	return slices.IndexFunc(b.turns, func(d done) bool { return d.client == x.Client && d.owner == x.B })
}

func (b *book) inTurn(x op) (reply, error) {
	if err := b.renew(x.Client); err != nil {
		return reply{}, err
	}
	i := b.turn(x)
	switch {
	case x.A < 0 || x.A > greatest:
		return reply{}, api.ErrBound
	case i < 0 && len(b.turns) >= api.MaxOwners:
		return reply{}, api.ErrFull
	case i >= 0 && x.A == b.turns[i].seq:
		return b.turns[i].reply, nil
	case i >= 0 && x.A != (b.turns[i].seq+1)%(greatest+1):
		return reply{}, api.ErrSeq
	}
	var r reply
	var err error
	if x.Kind == "open" {
		r, err = b.open(x)
	} else {
		r, err = b.less(x)
	}
	r.Code = code(err)
	if i < 0 {
		b.turns = append(b.turns, done{client: x.Client, owner: x.B})
		i = len(b.turns) - 1
	}
	b.turns[i].seq, b.turns[i].reply = x.A, r
	return r, nil
}

// isFile: one that is there.
func (b *book) isFile(h api.Handle) error {
	a, err := b.tree.Attr(h)
	if err == nil && a.Kind == api.Dir {
		err = api.ErrFile
	}
	return err
}

func (b *book) open(x op) (reply, error) {
	h := *b.cur
	if err := b.isFile(h); err != nil {
		return reply{}, err
	}
	if x.C < 1 || x.C > 15 || x.C%4 == 0 {
		return reply{}, api.ErrBound
	}
	access, deny := x.C%4, x.C/4
	mine := -1
	for i, o := range b.opens {
		switch {
		case o.file != h:
		case o.client == x.Client && o.owner == x.B:
			mine = i
		case o.deny&access != 0 || o.access&deny != 0:
			return reply{}, api.ErrHeld
		}
	}
	if mine < 0 {
		if len(b.opens) >= api.MaxOpens {
			return reply{}, api.ErrFull
		}
		b.ids++
		b.opens = append(b.opens, held{id: b.ids, client: x.Client, owner: x.B, file: h})
		b.tree.Pin(h)
		mine = len(b.opens) - 1
	}
	o := &b.opens[mine]
	o.seq++
	o.access |= access
	o.deny |= deny
	return reply{State: state{ID: o.id, Seq: o.seq}}, nil
}

// by a state: its open.
func (b *book) by(st state) (*held, error) {
	for i := range b.opens {
		switch o := &b.opens[i]; {
		case o.id != st.ID:
		case st.Seq < o.seq:
			return nil, api.ErrOld
		case st.Seq > o.seq:
			return nil, api.ErrShape
		default:
			return o, nil
		}
	}
	return nil, api.ErrNone
}

// less: close and down.
func (b *book) less(x op) (reply, error) {
	for _, o := range b.opens {
		if o.id == x.State.ID && (o.client != x.Client || o.owner != x.B) {
			return reply{}, api.ErrNone
		}
	}
	o, err := b.by(x.State)
	if err != nil {
		return reply{}, err
	}
	if x.Kind == "close" {
		b.close(*o)
		return reply{}, nil
	}
	if x.C < 1 || x.C > 15 || x.C%4 == 0 {
		return reply{}, api.ErrBound
	}
	if x.C&^(o.access+4*o.deny) != 0 {
		return reply{}, api.ErrShape
	}
	o.access, o.deny = x.C%4, x.C/4
	o.seq++
	return reply{State: state{ID: o.id, Seq: o.seq}}, nil
}

func (b *book) lock(x op) (reply, error) {
	o, err := b.by(x.State)
	if err != nil {
		return reply{}, err
	}
	b.renew(o.client)
	r := api.Range{At: x.A, Size: x.B}
	switch {
	case x.Kind == "unlock":
		return reply{}, b.locks.Unlock(o.file, o.id, r)
	case x.C != 1 && x.C != 2:
		return reply{}, api.ErrBound
	case o.access&x.C == 0:
		return reply{}, api.ErrNone
	}
	ask := b.locks.Test
	if x.Kind == "lock" {
		ask = b.locks.Lock
	}
	by, err := ask(o.file, o.id, r, x.C == 2)
	if err != api.ErrHeld {
		return reply{}, err
	}
	kind := map[bool]string{false: "read", true: "write"}
	return reply{N: by.Owner, Text: fmt.Sprint(by.R.At, by.R.Size, " ", kind[by.Write])}, err
}

func (b *book) bytes(x op) (reply, error) {
	h, need := *b.cur, api.Write
	if x.Kind == "read" {
		need = api.Read
	}
	if err := b.isFile(h); err != nil {
		return reply{}, err
	}
	if err := b.mayBytes(h, x.State, need); err != nil {
		return reply{}, err
	}
	switch x.Kind {
	case "write":
		return reply{}, b.tree.Write(h, x.A, x.Text)
	case "resize":
		return reply{}, b.tree.Resize(h, x.A)
	}
	text, end, err := b.tree.Read(h, x.A, x.B)
	return reply{Text: text, End: end}, err
}

func (b *book) mayBytes(h api.Handle, st state, need int) error {
	if st.ID == 0 {
		for _, o := range b.opens {
			if o.file == h && o.deny&need != 0 {
				return api.ErrHeld
			}
		}
		return nil
	}
	o, err := b.by(st)
	if err != nil {
		return err
	}
	b.renew(o.client)
	if o.file != h {
		return api.ErrShape
	}
	if o.access&need == 0 {
		return api.ErrNone
	}
	return nil
}

// look at a book, as at a server.
func (b *book) look() view {
	v := view{opens: []share.Open{}, locks: append([]lock.Lock{}, b.locks.List()...), tree: b.tree.Snapshot(), nodes: b.tree.Nodes()}
	for _, o := range b.opens {
		v.opens = append(v.opens, share.Open{H: o.file, Owner: o.id, Access: o.access, Deny: o.deny})
	}
	slices.SortFunc(v.opens, func(x, y share.Open) int {
		switch {
		case x.H.Node != y.H.Node:
			return x.H.Node - y.H.Node
		case x.H.Gen != y.H.Gen:
			return x.H.Gen - y.H.Gen
		}
		return x.Owner - y.Owner
	})
	return v
}
