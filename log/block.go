package log

import (
	"strings"

	"pigeonholes/api"
)

const wordSize = 4 // bytes of a number on the disk

// block of records, as one call writes it: how many they are, and each with how many bytes it has.
func block(records []string) string {
	var b strings.Builder
	b.WriteString(word(len(records)))
	for _, s := range records {
		b.WriteString(word(len(s)))
		b.WriteString(s)
	}
	return b.String()
}

// sectors that a text takes.
func sectors(text string) int { return (len(text) + api.Sector - 1) / api.Sector }

// readBlocks: the records of blocks, each of which begins with a sector; false: they are none.
func readBlocks(text string) ([]string, bool) {
	var records []string
	r := &reader{left: text}
	for r.left != "" {
		for range r.word() {
			s := r.bytes(r.word())
			if r.bad {
				return nil, false
			}
			records = append(records, s)
		}
		// The text is whole sectors: what is left beyond such is the filling of this one.
		r.bytes(len(r.left) % api.Sector)
	}
	return records, true
}

// word is a number of four bytes, the highest first.
func word(n int) string {
	var b [wordSize]byte
	for i := range wordSize {
		b[wordSize-1-i] = byte(n >> (8 * i))
	}
	return string(b[:])
}

// reader of what is on a disk. Behind what is not there nothing is any more.
type reader struct {
	left string
	bad  bool
}

// bytes, so many.
func (r *reader) bytes(count int) string {
	if count > len(r.left) {
		*r = reader{bad: true}
		return ""
	}
	s := r.left[:count]
	r.left = r.left[count:]
	return s
}

// word of four bytes.
func (r *reader) word() int {
	n := 0
	s := r.bytes(wordSize)
	for i := range len(s) {
		n = n<<8 | int(s[i])
	}
	return n
}
