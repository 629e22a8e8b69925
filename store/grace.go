package store

import (
	"slices"

	"pigeonholes/api"
	"pigeonholes/serve"
)

// again is the text by which a client opens what it had open before.
const again = "again"

// grace is given behind Open to those who had something open: they may have it again ahead of all others. Its zero value is over.
type grace struct {
	left  int      // ticks
	known []string // names by which clients were confirmed, as the log had it at Open
}

// begin it, for those who are known.
func (g *grace) begin(known []string) { *g = grace{left: api.Lease, known: known} }

// pass ticks.
func (g *grace) pass(n int) {
	g.left = max(g.left-n, 0)
	if g.isOver() {
		g.known = nil
	}
}

// refuse an op of a client.
func (g *grace) refuse(op serve.Op, client string) error {
	if g.isOver() || op.Kind == "open" && op.Text == again && slices.Contains(g.known, client) {
		return nil
	}
	return api.ErrGrace
}

func (g *grace) isOver() bool { return g.left == 0 }
