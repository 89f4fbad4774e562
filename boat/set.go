package boat

import "math/bits"

// set is a set of places, of boats or of sightings: the bit n is set just if the one with the number n is in it.
type set int

// one returns the set of one alone.
func one(n int) set {
	return 1 << n
}

// first returns the set of the first ones, so many.
func first(many int) set {
	return 1<<many - 1
}

// those returns the set of those, of the first ones, of which something is so.
func those(many int, is func(n int) bool) set {
	var such set
	for n := range many {
		if is(n) {
			such = union(such, one(n))
		}
	}
	return such
}

// union returns what is in any of the sets.
func union(sets ...set) set {
	var joint set
	for _, s := range sets {
		joint |= s
	}
	return joint
}

func (s set) has(n int) bool {
	return s>>n&1 == 1
}

// isOnly returns whether one is in the set, and nothing else.
func (s set) isOnly(n int) bool {
	return s == one(n)
}

func (s set) isEmpty() bool {
	return s == 0
}

func (s set) size() int {
	return bits.OnesCount(uint(s))
}

// least returns the least number in the set. It must not be empty.
func (s set) least() int {
	return bits.TrailingZeros(uint(s))
}

// greatest returns the greatest number in the set. It must not be empty.
func (s set) greatest() int {
	return bits.Len(uint(s)) - 1
}
