package share

import "pigeonholes/api"

func isAccess(n int) bool { return n >= api.Read && n <= both }

func isDeny(n int) bool { return n >= 0 && n <= both }

func hasAll(n, bits int) bool { return bits&^n == 0 }

func hasSome(n, bits int) bool { return bits&n != 0 }

// by makes a test of whether an open is an owner's.
func by(owner int) func(Open) bool {
	return func(o Open) bool { return o.Owner == owner }
}

// denying makes a test of whether an open of a node denies others some of an access.
func denying(h api.Handle, access int) func(Open) bool {
	return func(o Open) bool { return o.H == h && hasSome(o.Deny, access) }
}

// having makes a test of whether an open of a node has some of what would be denied.
func having(h api.Handle, deny int) func(Open) bool {
	return func(o Open) bool { return o.H == h && hasSome(o.Access, deny) }
}

// against makes a test of whether an open of another owner does not go with one that is wanted.
func against(wanted Open) func(Open) bool {
	isOwn := by(wanted.Owner)
	denies, has := denying(wanted.H, wanted.Access), having(wanted.H, wanted.Deny)
	return func(o Open) bool { return !isOwn(o) && (denies(o) || has(o)) }
}
