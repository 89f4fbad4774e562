package ticket

import "math/bits"

// set is a set of tickets, or of huts: the bit n is set just if the one with the number n is in it.
type set int

// everything is the set of all numbers, before it is known which ones there are.
const everything set = -1

// one returns the set of one alone.
func one(n int) set {
	return 1 << n
}

// all returns the set of so many: all of them.
func all(many int) set {
	return 1<<many - 1
}

// join returns what is in any of the sets.
func join(sets ...set) set {
	var s set
	for _, x := range sets {
		s |= x
	}
	return s
}

// setOf returns the set of those, of so many, that are such.
func setOf(many int, such func(n int) bool) set {
	var s set
	for n := range many {
		if such(n) {
			s = join(s, one(n))
		}
	}
	return s
}

func (s set) has(n int) bool {
	return s>>n&1 == 1
}

func (s set) size() int {
	return bits.OnesCount(uint(s))
}
