package attr

import "pigeonholes/xdr"

// codec passes numbers one way, into a text or out of one: so each part tells its numbers once for both, and they cannot come apart.
type codec struct {
	short func(n *int) error // an Int
	long  func(n *int) error // a Long
}

func writing(w *xdr.Writer) codec {
	return codec{short: from(w.Int), long: from(w.Long)}
}

func reading(r *xdr.Reader) codec {
	return codec{short: to(r.Int), long: to(r.Long)}
}

func from(write func(int) error) func(*int) error {
	return func(n *int) error { return write(*n) }
}

func to(read func() (int, error)) func(*int) error {
	return func(n *int) error {
		v, err := read()
		*n = v
		return err
	}
}
