package rail

import "iter"

// search is in which order what is in a set is looked at, and what has to be so of what is found.
type search[S, T any] struct {
	order func(S) iter.Seq[T]
	suits func(T) bool
}

// first returns the first one of a set that suits, and whether there is one.
func first[S, T any](all S, by search[S, T]) (found T, is bool) {
look:
	for x := range by.order(all) {
		if by.suits(x) {
			found, is = x, true
			break look
		}
	}
	return found, is
}
