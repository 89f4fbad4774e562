package watch

import "math/bits"

// set is a set of owners, of finds or of huts: the bit n is set just if the one with the number n is in it.
type set int

// one returns the set of one alone.
func one(n int) set {
	return 1 << n
}

// first returns the set of the first ones, so many.
func first(many int) set {
	return 1<<many - 1
}

// union returns what is in any of the sets.
func union(sets ...set) set {
	var joint set
	for _, s := range sets {
		joint |= s
	}
	return joint
}

func (s set) has(n int) bool {
	return s>>n&1 == 1
}

func (s set) size() int {
	return bits.OnesCount(uint(s))
}
