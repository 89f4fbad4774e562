package serve

import (
	"iter"

	"dipworks/api"
)

// measure is what is to be the least; it never is below 0.
type measure[T any] struct {
	of func(T) int
}

// choice is a value that was chosen, and its measure.
type choice[T any] struct {
	value T
	much  int
}

// least returns the first one of the values whose measure is the least. It refuses the call if there is none.
func least[T any](values iter.Seq[T], m measure[T]) choice[T] {
	var best choice[T]
	begun := false
	for v := range values {
		if much := m.of(v); !begun || much < best.much {
			best, begun = choice[T]{value: v, much: much}, true
		}
		if best.much == 0 {
			break // No other one can be less.
		}
	}
	require(begun, api.ErrNone)
	return best
}

// sum returns the sum of numbers.
func sum(numbers ...int) int {
	total := 0
	for _, n := range numbers {
		total += n
	}
	return total
}
