package rail

import (
	"iter"
	"math/bits"
)

// hours is a set of hours: the bit n is set just if the hour n is in it. The end can be one of them.
type hours int

// until returns the hours before one.
func until(hour int) hours {
	return 1<<hour - 1
}

func (s hours) has(hour int) bool {
	return s>>hour&1 == 1
}

// lacks returns whether some of these hours are not in the set.
func (s hours) lacks(some hours) bool {
	return some&^s != 0
}

// up returns the hours, the earliest one first.
func (s hours) up() iter.Seq[int] {
	return func(yield func(hour int) bool) {
		for left := s; left != 0; left &= left - 1 {
			if !yield(bits.TrailingZeros(uint(left))) {
				return
			}
		}
	}
}

// down returns the hours, the latest one first.
func (s hours) down() iter.Seq[int] {
	return func(yield func(hour int) bool) {
		for left := s; left != 0; {
			latest := bits.Len(uint(left)) - 1
			if !yield(latest) {
				return
			}
			left &= until(latest)
		}
	}
}
