package tree

import "pigeonholes/api"

// Write into a file.
func (t *Tree) Write(h api.Handle, at int, s string) error {
	d, err := t.table.Data(h)
	if err != nil {
		return err
	}
	if err := d.Write(at, s); err != nil {
		return err
	}
	if s != "" {
		t.touch(h)
	}
	return nil
}

// Read from a file.
func (t *Tree) Read(h api.Handle, at, n int) (s string, end bool, err error) {
	d, err := t.table.Data(h)
	if err != nil {
		return "", false, err
	}
	return d.Read(at, n)
}

// Resize a file.
func (t *Tree) Resize(h api.Handle, n int) error {
	d, err := t.table.Data(h)
	if err != nil {
		return err
	}
	if err := d.Resize(n); err != nil {
		return err
	}
	t.touch(h)
	return nil
}

// Pin a file.
func (t *Tree) Pin(h api.Handle) error {
	if err := t.checkFile(h); err != nil {
		return err
	}
	t.pins[h]++
	return nil
}

// Unpin a file.
func (t *Tree) Unpin(h api.Handle) error {
	if err := t.checkFile(h); err != nil {
		return err
	}
	switch t.pins[h] {
	case 0:
		return api.ErrNone
	case 1:
		delete(t.pins, h)
		t.settle(h)
	default:
		t.pins[h]--
	}
	return nil
}

func (t *Tree) checkFile(h api.Handle) error {
	_, err := t.table.Data(h)
	return err
}
