package flag

import "math/bits"

// set is a set of hours, of kinds or of what was seen: the bit n is set just if the one with the number n is in it.
type set int

// one returns the set of one alone.
func one(n int) set {
	return 1 << n
}

// first returns the set of the first ones, so many.
func first(many int) set {
	return 1<<many - 1
}

func (s set) has(n int) bool {
	return s>>n&1 == 1
}

func (s set) size() int {
	return bits.OnesCount(uint(s))
}

// joined returns what is in any of the sets that a function makes of the elements.
func joined[T any](list []T, to func(T) set) set {
	var joint set
	for _, x := range list {
		joint |= to(x)
	}
	return joint
}
