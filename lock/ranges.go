package lock

import (
	"math"

	"pigeonholes/api"
)

// most that a range may have as its place, and as its size. (Runs that grew together may have more.)
const most = 1 << 40

// endless is where ranges without an end are taken to end: behind all others.
const endless = math.MaxInt

func isRange(r api.Range) bool { return r.At >= 0 && r.At <= most && r.Size >= 0 && r.Size <= most }

// end of a range: the first byte that is not of it.
func end(r api.Range) int {
	if r.Size == 0 {
		return endless
	}
	return r.At + r.Size
}

// between makes the range from a byte on up to an end.
func between(at, end int) api.Range {
	if end == endless {
		return api.Range{At: at}
	}
	return api.Range{At: at, Size: end - at}
}

// meet: do they have a byte in common?
func meet(a, b api.Range) bool { return a.At < end(b) && b.At < end(a) }

// touch: is there no byte between them?
func touch(a, b api.Range) bool { return a.At <= end(b) && b.At <= end(a) }

// join two that touch.
func join(a, b api.Range) api.Range { return between(min(a.At, b.At), max(end(a), end(b))) }

// outside: what of a range lies ahead of another one, and behind it.
func outside(r, cut api.Range) []api.Range {
	var l []api.Range
	if r.At < cut.At {
		l = append(l, between(r.At, min(end(r), cut.At)))
	}
	if end(cut) < end(r) {
		l = append(l, between(max(end(cut), r.At), end(r)))
	}
	return l
}
