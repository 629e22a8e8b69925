package log

import (
	"strings"

	"pigeonholes/api"
	"pigeonholes/disk"
)

const (
	mark  = "pigeonholes log\n" // a sector that does not begin so is no head
	heads = 2                   // sectors, ahead of the halves
)

// head of a log, in a sector of its own, so that it is written whole, or not at all. There are two by turns: the one that counts is never written over.
type head struct {
	calls uint32 // that counted; 0 follows the greatest
	half  int    // of the disk, 0 or 1, which holds the records
	used  int    // sectors of that half
}

// newest head of a disk, if there is one.
func newest(d *disk.Disk) (head, bool) {
	even, isEven := readHead(d, 0)
	odd, isOdd := readHead(d, 1)
	if isOdd && (!isEven || odd.isBehind(even)) {
		return odd, true
	}
	return even, isEven
}

// readHead of a sector, if it is one.
func readHead(d *disk.Disk, slot int) (head, bool) {
	s, err := d.Read(slot)
	if err != nil || !strings.HasPrefix(s, mark) {
		return head{}, false
	}
	r := &reader{left: s[len(mark):]}
	var h head
	h.calls = uint32(r.word())
	h.half = r.word()
	h.used = r.word()
	if h.slot() != slot || !h.fits(d) {
		return head{}, false
	}
	return h, true
}

// fits it a disk? Who holds to that cannot be led beyond a half.
func (h head) fits(d *disk.Disk) bool {
	return d.Sectors() >= least && h.half <= 1 && h.used <= half(d)
}

// slot is the sector of a head.
func (h head) slot() int { return int(h.calls % heads) }

// isBehind: did more calls count than at the other one? By their difference, as they go round.
func (h head) isBehind(other head) bool { return int32(h.calls-other.calls) > 0 }

// continued is the head of an Add, ahead of its records.
func (h head) continued() head {
	h.calls++
	return h
}

// emptied is a head without records, in the other half: those that count may still be needed.
func (h head) emptied() head {
	return head{calls: h.calls + 1, half: 1 - h.half}
}

// first sector of the half that holds the records.
func (h head) first(d *disk.Disk) int {
	return heads + h.half*half(d)
}

// records that a head counts; false: they cannot be read.
func (h head) records(d *disk.Disk) ([]string, bool) {
	var text strings.Builder
	for n := range h.used {
		s, err := d.Read(h.first(d) + n)
		if err != nil {
			return nil, false
		}
		text.WriteString(s)
	}
	return readBlocks(text.String())
}

// commit a text, in sectors of its own, and then the head.
func (h head) commit(d *disk.Disk, text string) error {
	// The newest head may still wait, and could go: what counts by the one before it must not be written over ahead of that.
	if err := settle(d); err != nil {
		return err
	}
	for at := range sectors(text) {
		from := at * api.Sector
		piece := text[from:min(from+api.Sector, len(text))]
		if err := d.Write(h.first(d)+h.used, piece); err != nil {
			return err
		}
		h.used++
	}
	if err := d.Flush(); err != nil {
		return err
	}
	return h.save(d)
}

// save a head.
func (h head) save(d *disk.Disk) error {
	if err := d.Write(h.slot(), mark+word(int(h.calls))+word(h.half)+word(h.used)); err != nil {
		return err
	}
	return d.Flush()
}
