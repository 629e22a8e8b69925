package side

import (
	"sync"

	"pigeonholes/api"
)

// answer of a worker: what it made of a number.
type answer[A any] struct {
	number int
	made   A
	err    error
}

// all numbers below count are done by so many workers: what is made of each, in their order, or an *api.Fault with the first that has an error.
func all[A any](count, workers int, do func(number int) (A, error)) ([]A, error) {
	numbers, answers := make(chan int), make(chan answer[A])
	var crew sync.WaitGroup
	for range min(workers, count) {
		crew.Go(func() { work(numbers, answers, do) })
	}
	l := gather(count, numbers, answers)
	close(numbers)
	crew.Wait()
	return inOrder(l)
}

// work on numbers until there are no more.
func work[A any](numbers <-chan int, answers chan<- answer[A], do func(number int) (A, error)) {
	for number := range numbers {
		made, err := do(number)
		answers <- answer[A]{number: number, made: made, err: err}
	}
}

// gather the answers to all numbers below count, by their numbers. Both ways stand in one select: a worker that has an answer takes no number ahead of telling it.
func gather[A any](count int, numbers chan<- int, answers <-chan answer[A]) []answer[A] {
	l := make([]answer[A], count)
	next := 0
	for heard := 0; heard < count; {
		if next == count {
			numbers = nil // all are given out: this way is not taken any more
		}
		select {
		case numbers <- next:
			next++
		case a := <-answers:
			l[a.number] = a
			heard++
		}
	}
	return l
}

// inOrder is what was made. The first error is that of the least number, whichever came first.
func inOrder[A any](l []answer[A]) ([]A, error) {
	var made []A
	for at, a := range l {
		if a.err != nil {
			return nil, &api.Fault{At: at, Err: a.err}
		}
		made = append(made, a.made)
	}
	return made, nil
}
