package side

import (
	"errors"
	"slices"
	"strconv"
	"sync/atomic"
	"testing"
	"testing/synctest"
	"time"

	"pigeonholes/api"
)

// Tests run by synctest: its clock goes on only when nobody can work meanwhile, and it fails where somebody is left at work for ever.

// told text of a number, by which answers are known from each other.
func told(number int) string { return "made of " + strconv.Itoa(number) }

// inTurn is what all must make of so many numbers.
func inTurn(count int) []string {
	var l []string
	for n := range count {
		l = append(l, told(n))
	}
	return l
}

// P192: answers are in the order of the numbers, in whichever they come.
func TestAnswersComeInAnyOrder(t *testing.T) {
	orders := []func(number int) int{
		func(int) int { return 1 },
		func(number int) int { return number },
		func(number int) int { return 100 - number },
		func(number int) int { return number * 37 % 101 },
		func(number int) int { return number % 2 * 1000 },
		func(number int) int { return number / 99 * 5000 },
	}
	for _, slow := range orders {
		for workers := 1; workers <= api.Workers; workers++ {
			for _, count := range []int{0, 1, 2, 15, 16, 17, 100} {
				synctest.Test(t, func(t *testing.T) {
					l, err := all(count, workers, func(number int) (string, error) {
						time.Sleep(time.Duration(slow(number)) * time.Second)
						return told(number), nil
					})
					if !slices.Equal(l, inTurn(count)) || err != nil {
						t.Errorf("%d by %d: %q, %v", count, workers, l, err)
					}
				})
			}
		}
	}
}

// P190, P192: the error is that of the least number, also where others come ahead of it.
func TestFirstErrorOfAll(t *testing.T) {
	late, soon := errors.New("late"), errors.New("soon")
	for workers := 1; workers <= api.Workers; workers++ {
		for _, first := range []int{0, 1, 7, 50, 98} {
			synctest.Test(t, func(t *testing.T) {
				l, err := all(100, workers, func(number int) (string, error) {
					switch {
					case number == first:
						time.Sleep(time.Hour)
						return "beside an error", late
					case number > first:
						return "beside an error", soon
					}
					return told(number), nil
				})
				var fault *api.Fault
				if len(l) != 0 || !errors.As(err, &fault) || fault.At != first || fault.Err != late {
					t.Errorf("%d of %d: %q, %v", first, workers, l, err)
				}
			})
		}
	}
}

// P190: so many are at work at once as there are workers, and numbers for them; no more, and no fewer as long as numbers are left.
func TestSoManyAtWork(t *testing.T) {
	for workers := 1; workers <= api.Workers; workers++ {
		for _, count := range []int{0, 1, 2, 15, 16, 17, 99, 100} {
			synctest.Test(t, func(t *testing.T) {
				var now, most atomic.Int32
				begin := time.Now()
				_, err := all(count, workers, func(int) (string, error) {
					if n := now.Add(1); n > most.Load() {
						most.Store(n)
					}
					time.Sleep(time.Second)
					now.Add(-1)
					return "", nil
				})
				rounds := (count + workers - 1) / workers
				if err != nil || int(most.Load()) > workers || time.Since(begin) != time.Duration(rounds)*time.Second {
					t.Errorf("%d by %d: %d at once, in %v, %v", count, workers, most.Load(), time.Since(begin), err)
				}
			})
		}
	}
}

// P2: each number is done once, and nobody is at work any more when the call answers, also where there is an error.
func TestEachNumberOnce(t *testing.T) {
	bad := errors.New("bad")
	for workers := 1; workers <= api.Workers; workers++ {
		for _, err := range []error{nil, bad} {
			synctest.Test(t, func(t *testing.T) {
				var begun, ended [100]atomic.Int32
				_, got := all(100, workers, func(number int) (int, error) {
					begun[number].Add(1)
					time.Sleep(time.Duration(number%7) * time.Second)
					ended[number].Add(1)
					if number%5 == 4 {
						return 0, err
					}
					return number, nil
				})
				if !errors.Is(got, err) {
					t.Errorf("%d: %v; want %v", workers, got, err)
				}
				for n := range begun {
					if b, e := begun[n].Load(), ended[n].Load(); b != e || b != 1 {
						t.Errorf("%d: %d was begun %d times, and ended %d times", workers, n, b, e)
					}
				}
			})
		}
	}
}
