package horse

import (
	"iter"
	"math/bits"
)

// set is a set of moves: the bit n is set just if the move n is in it.
type set int

// one returns the set of a move alone.
func one(move int) set {
	return 1 << move
}

// all returns the set of so many moves: all of them.
func all(moves int) set {
	return 1<<moves - 1
}

// join returns what is in any of the sets.
func join(sets ...set) set {
	var s set
	for _, x := range sets {
		s |= x
	}
	return s
}

func (s set) has(move int) bool {
	return s>>move&1 == 1
}

func (s set) size() int {
	return bits.OnesCount(uint(s))
}

func (s set) larger(than set) bool {
	return s.size() > than.size()
}

// eachSet yields all sets of so many moves, the least number first.
func eachSet(moves int) iter.Seq[set] {
	return func(yield func(set) bool) {
		for s := range all(moves) + 1 {
			if !yield(s) {
				return
			}
		}
	}
}
