// Package xdr: texts on the wire: see ../shared/doc/01-xdr.md.
package xdr

import "pigeonholes/api"

const (
	intSize  = 4 // bytes of an Int
	longSize = 8 // bytes of a Long
	unit     = 4 // bytes are filled up to so many
	maxInt   = 1<<32 - 1
	maxLong  = 1<<63 - 1
)

// Writer of a text.
type Writer struct {
	// A string, not a slice of bytes: copies of a Writer share nothing that one of them could write over.
	text string
}

// Int of four bytes.
func (w *Writer) Int(n int) error {
	if !isInt(n) {
		return api.ErrBound
	}
	return w.number(n, intSize)
}

// Long of eight bytes.
func (w *Writer) Long(n int) error {
	if n < 0 {
		return api.ErrBound
	}
	return w.number(n, longSize)
}

// Bool as an Int.
func (w *Writer) Bool(b bool) error {
	if b {
		return w.Int(1)
	}
	return w.Int(0)
}

// Bytes with how many they are.
func (w *Writer) Bytes(s string) error {
	if !isInt(len(s)) {
		return api.ErrBound
	}
	zeros := filling(len(s))
	// Asked for all of it at once: a length whose bytes have no room must not be left behind.
	if !w.hasRoom(intSize + len(s) + zeros) {
		return api.ErrFull
	}
	w.text += digits(len(s), intSize) + s + digits(0, zeros)
	return nil
}

// Text of all.
func (w *Writer) Text() string { return w.text }

func (w *Writer) number(n, size int) error {
	if !w.hasRoom(size) {
		return api.ErrFull
	}
	w.text += digits(n, size)
	return nil
}

func (w *Writer) hasRoom(size int) bool { return size <= api.MaxText-len(w.text) }

// Reader of a text.
type Reader struct {
	left string
}

// NewReader of a text.
func NewReader(s string) *Reader { return &Reader{left: s} }

// Int of four bytes.
func (r *Reader) Int() (int, error) {
	n, err := r.next(intSize)
	if err != nil {
		return 0, err
	}
	r.skip(intSize)
	return int(n), nil
}

// Long of eight bytes.
func (r *Reader) Long() (int, error) {
	n, err := r.next(longSize)
	if err != nil {
		return 0, err
	}
	if n > maxLong {
		return 0, api.ErrText
	}
	r.skip(longSize)
	return int(n), nil
}

// Bool of an Int.
func (r *Reader) Bool() (bool, error) {
	n, err := r.next(intSize)
	if err != nil {
		return false, err
	}
	if n > 1 {
		return false, api.ErrText
	}
	r.skip(intSize)
	return n == 1, nil
}

// Bytes with how many they are.
func (r *Reader) Bytes(most int) (string, error) {
	n, err := r.next(intSize)
	if err != nil {
		return "", err
	}
	count := int(n)
	end := intSize + count
	all := end + filling(count)
	if count > most || all > len(r.left) || !isZeros(r.left[end:all]) {
		return "", api.ErrText
	}
	s := r.left[intSize:end]
	r.skip(all)
	return s, nil
}

// End of the text.
func (r *Reader) End() error {
	if r.left != "" {
		return api.ErrText
	}
	return nil
}

// next number, which stays unread: whoever asks may still find it wrong, and behind an error nothing was read.
func (r *Reader) next(size int) (uint64, error) {
	if len(r.left) < size {
		return 0, api.ErrText
	}
	var n uint64
	for i := range size {
		n = n<<8 | uint64(r.left[i])
	}
	return n, nil
}

func (r *Reader) skip(size int) { r.left = r.left[size:] }

func isInt(n int) bool { return n >= 0 && n <= maxInt }

func isZeros(s string) bool {
	for i := range len(s) {
		if s[i] != 0 {
			return false
		}
	}
	return true
}

// filling: how many bytes 0 stand behind so many bytes.
func filling(count int) int { return (unit - count%unit) % unit }

// digits of a number, each a byte, the highest first.
func digits(n, size int) string {
	b := make([]byte, size)
	for i := range size {
		b[size-1-i] = byte(n >> (8 * i))
	}
	return string(b)
}
