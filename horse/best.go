package horse

import "iter"

// choice is which of several values fit, and which of two is better.
type choice[T any] struct {
	fits   func(T) bool
	better func(one, other T) bool
}

// best returns the first of the values that fit than which none that fits is better; one must fit.
func best[T any](c choice[T], values iter.Seq[T]) T {
	var found T
	begun := false
	for v := range values {
		if c.fits(v) && (!begun || c.better(v, found)) {
			found, begun = v, true
		}
	}
	return found
}
