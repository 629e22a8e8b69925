package store

import (
	"slices"
	"strings"

	"pigeonholes/api"
	"pigeonholes/names"
)

// between names: a byte that none has.
const between = "/"

// image of a server: what of it lasts.
type image struct {
	tree    string // its snapshot
	clients string // the names of those that are confirmed
}

// records of an image, in a log.
func (i image) records() []string { return []string{i.tree, i.clients} }

// imageOf records; of those that are none, the image without bytes, which has no tree.
func imageOf(records []string) image {
	if len(records) != 2 {
		return image{}
	}
	return image{tree: records[0], clients: records[1]}
}

// writeNames of two lists, rising, each once: one text for the same names.
func writeNames(some, others []string) string {
	l := slices.Concat(some, others)
	slices.Sort(l)
	return strings.Join(slices.Compact(l), between)
}

// readNames of a text.
func readNames(text string) ([]string, error) {
	if text == "" {
		return nil, nil
	}
	l := strings.Split(text, between)
	for _, s := range l {
		if names.Check(s) != nil {
			return nil, api.ErrText
		}
	}
	return l, nil
}
