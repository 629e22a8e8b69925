package lock

import "pigeonholes/api"

// by makes a test of whether a run is an owner's, at a node.
func by(h api.Handle, owner int) func(Lock) bool {
	return func(run Lock) bool { return run.H == h && run.Owner == owner }
}

// against makes a test of whether a run of another owner does not go with one that is wanted.
func against(wanted Lock) func(Lock) bool {
	return func(run Lock) bool {
		return run.H == wanted.H && run.Owner != wanted.Owner && (run.Write || wanted.Write) && meet(run.R, wanted.R)
	}
}

// continuing makes a test of whether a run becomes one with a run that is wanted.
func continuing(wanted Lock) func(Lock) bool {
	isOwn := by(wanted.H, wanted.Owner)
	return func(run Lock) bool { return isOwn(run) && run.Write == wanted.Write && touch(run.R, wanted.R) }
}

// cutting makes a function that tells what is left of a run when an owner has nothing of a range any more.
func cutting(h api.Handle, owner int, r api.Range) func(Lock) []Lock {
	isOwn := by(h, owner)
	return func(run Lock) []Lock {
		if !isOwn(run) {
			return []Lock{run}
		}
		var l []Lock
		for _, left := range outside(run.R, r) {
			run.R = left
			l = append(l, run)
		}
		return l
	}
}
