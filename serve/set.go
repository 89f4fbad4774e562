package serve

import "math/bits"

// set is a set of bathers, or of places: the bit n is set just if the one with the number n is in it.
type set int

// first returns the set of the first ones, so many.
func first(many int) set {
	return 1<<many - 1
}

func (s set) has(n int) bool {
	return s>>n&1 == 1
}

func (s set) without(other set) set {
	return s &^ other
}

func (s set) size() int {
	return bits.OnesCount(uint(s))
}
