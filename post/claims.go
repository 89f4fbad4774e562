package post

import (
	"iter"
	"slices"

	"dipworks/api"
)

// search is a search of values for one that suits.
type search[T any] struct {
	values iter.Seq[T]
	suits  func(T) bool
}

// first returns the first value that suits; one must.
func first[T any](s search[T]) T {
	var found T
	for v := range s.values {
		if s.suits(v) {
			found = v
			break
		}
	}
	return found
}

// without returns the claims but for some.
func (b beach) without(left set) []api.PostClaim {
	list := slices.Clone(b.Claims)
	for n := range slices.Backward(b.Claims) {
		if left.has(n) {
			list = slices.Delete(list, n, n+1)
		}
	}
	return list
}

// canWithout returns whether there is a truth if some claims are left out.
func (b beach) canWithout(left set) bool {
	return b.can(rulesOf(b.without(left)))
}

// mustBeFalse returns the fewest claims without which there is a truth.
func (b beach) mustBeFalse() set {
	return first(search[set]{values: bySize(len(b.Claims)), suits: b.canWithout})
}

// clash returns the fewest claims such that with these alone there is no truth. It refuses the call if there is one with all.
func (b beach) clash() set {
	require(!b.canWithout(0), api.ErrNone)
	many := len(b.Claims)
	return first(search[set]{values: bySize(many), suits: func(s set) bool {
		return !b.canWithout(all(many) &^ s)
	}})
}
