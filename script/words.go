package script

import (
	"strconv"
	"strings"

	"pigeonholes/api"
	"pigeonholes/names"
)

const (
	fileWord = "file"
	dirWord  = "dir"

	mostNumber = 99999 // of five digits

	lettersAndDigits = "abcdefghijklmnopqrstuvwxyzABCDEFGHIJKLMNOPQRSTUVWXYZ0123456789"
)

// args are what the words of a command tell.
type args struct {
	who             *caller
	path            []string // names that are looked up
	name            string   // behind them, of what is made or removed
	kind, at, count int
	text            string
}

// reader of a word: is it one of its kind? If so, the args have what it tells.
type reader func(a *args, word string) bool

// readArgs reads as many words as there are readers.
func readArgs(readers []reader, words []string) (args, error) {
	var a args
	if len(words) != len(readers) {
		return args{}, api.ErrText
	}
	for i, read := range readers {
		if !read(&a, words[i]) {
			return args{}, api.ErrText
		}
	}
	return a, nil
}

func isPath(a *args, word string) bool {
	l, err := names.Split(word)
	a.path = l
	return err == nil
}

// isPathBelow the root: it ends with a name.
func isPathBelow(a *args, word string) bool {
	if !isPath(a, word) || len(a.path) == 0 {
		return false
	}
	last := len(a.path) - 1
	a.path, a.name = a.path[:last], a.path[last]
	return true
}

func isKind(a *args, word string) bool {
	switch word {
	case fileWord:
		a.kind = api.File
	case dirWord:
		a.kind = api.Dir
	default:
		return false
	}
	return true
}

func isAt(a *args, word string) bool { return isNumber(&a.at, word) }

func isCount(a *args, word string) bool { return isNumber(&a.count, word) }

// isNumber: of each number there is one word alone, that by which it is written.
func isNumber(n *int, word string) bool {
	read, err := strconv.Atoi(word)
	*n = read
	return err == nil && read >= 0 && read <= mostNumber && strconv.Itoa(read) == word
}

func isText(a *args, word string) bool {
	a.text = word
	return word != "" && strings.Trim(word, lettersAndDigits) == ""
}
