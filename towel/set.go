package towel

import (
	"iter"
	"math/bits"
)

// set is a set of bathers, of huts or of half hours: the bit n is set just if the one with the number n is in it.
type set int

// one returns the set of one alone.
func one(n int) set {
	return 1 << n
}

// first returns the set of the first ones, so many.
func first(many int) set {
	return 1<<many - 1
}

func (s set) has(n int) bool {
	return s>>n&1 == 1
}

func (s set) size() int {
	return bits.OnesCount(uint(s))
}

// fewer returns the one of two sets that has fewer elements, or of equally many the lesser number.
func (s set) fewer(other set) set {
	if many, others := s.size(), other.size(); many < others || many == others && s < other {
		return s
	}
	return other
}

// bySize goes through all sets of so many: those of fewer first, and of those of the same size the lesser numbers.
func bySize(many int) iter.Seq[set] {
	return func(yield func(set) bool) {
		// What is tried first at each number is to leave it out, from the greatest one down: so the lesser sets come first.
		var try func(had set, more, below int) bool
		try = func(had set, more, below int) bool {
			switch {
			case more == 0:
				return yield(had)
			case more > below:
				return true
			}
			last := below - 1
			return try(had, more, last) && try(had|one(last), more-1, last)
		}
		for size := range many + 1 {
			if !try(0, size, many) {
				return
			}
		}
	}
}
