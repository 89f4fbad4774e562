package surf

import "math/bits"

// set is a set of rows, of hours, or of huts: the bit n is set just if the one with the number n is in it.
type set int

// one returns the set of one alone.
func one(n int) set {
	return 1 << n
}

// all returns the set of so many: all of them.
func all(many int) set {
	return 1<<many - 1
}

// join returns what is in any of the sets.
func join(sets ...set) set {
	var s set
	for _, x := range sets {
		s |= x
	}
	return s
}

// setOf returns the set of those, of so many, that are such.
func setOf(many int, such func(n int) bool) set {
	var s set
	for n := range many {
		if such(n) {
			s = join(s, one(n))
		}
	}
	return s
}

func (s set) has(n int) bool {
	return s>>n&1 == 1
}

func (s set) size() int {
	return bits.OnesCount(uint(s))
}

// least returns the least number in a set; there must be one.
func (s set) least() int {
	return bits.TrailingZeros(uint(s))
}

// each yields the numbers in a set, the least one first.
func (s set) each(yield func(int) bool) {
	for rest := s; rest != 0; rest &= rest - 1 {
		if !yield(rest.least()) {
			return
		}
	}
}

// parts yields all sets of what is in a set: the smallest ones first and, of those of one size, the one of the least number.
func (s set) parts(yield func(set) bool) {
	for size := range s.size() + 1 {
		for part := range s + 1 {
			if part&^s == 0 && part.size() == size && !yield(part) {
				return
			}
		}
	}
}
