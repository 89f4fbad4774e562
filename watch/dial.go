package watch

import (
	"iter"

	"dipworks/api"
)

// dial is a number of a dial.
type dial int

// midnight is what a watch that is right shows at the minute 0.
const midnight dial = 0

// later returns the number so many minutes further on, or back if they are below 0.
func (d dial) later(minutes int) dial {
	return dial(modulo(d.number()+minutes, api.WatchDial))
}

func (d dial) number() int {
	return int(d)
}

// modulo returns n modulo another number, also if n is below 0.
func modulo(n, by int) int {
	return (n%by + by) % by
}

// quotient returns n divided by another number, rounded down.
func quotient(n, by int) int {
	return (n - modulo(n, by)) / by
}

// mapped goes through what a function makes of each element.
func mapped[T, U any](elements iter.Seq[T], to func(T) U) iter.Seq[U] {
	return func(yield func(U) bool) {
		for x := range elements {
			if !yield(to(x)) {
				return
			}
		}
	}
}
