package towel

import (
	"slices"

	"dipworks/api"
)

// tally is in how many truths a bather has kept so many towels, for each number.
type tally [api.TowelLent + 1]int

// tallies is how many truths there are, and the tally of each bather of whom it is told already.
type tallies struct {
	truths int
	of     []tally
}

// longer returns a copy of the list, with so many tallies more. Several tales go on from the same list, so none may change it.
func longer(list []tally, more int) []tally {
	copied := make([]tally, len(list)+more)
	copy(copied, list)
	return copied
}

// plus returns the tallies with that of the next bather, who has kept so many in all of these truths.
func (x tallies) plus(k kept) tallies {
	of := longer(x.of, 1)
	of[k.bather][k.many] = x.truths
	return tallies{x.truths, of}
}

// or returns the tallies of the truths of both.
func (x tallies) or(other tallies) tallies {
	of := longer(x.of, 0)
	for bather, t := range other.of {
		for many, truths := range t {
			of[bather][many] = sum(of[bather][many], truths)
		}
	}
	return tallies{sum(x.truths, other.truths), of}
}

// tallied tells the tallies of all bathers.
func tallied() tale[tallies] {
	return tale[tallies]{nobody: tallies{truths: 1}, more: tallies.plus, either: tallies.or}
}

// whom is a bather, and how many truths can be left when this one is searched.
type whom struct{ bather, left int }

// search returns the bather by whom the fewest truths are left at worst. It refuses the call if there is nothing left to find out.
func (x tallies) search() whom {
	require(x.truths > 1, api.ErrRefuse)
	best := whom{left: x.truths + 1}
	for bather, t := range x.of {
		if left := slices.Max(t[:]); left < best.left {
			best = whom{bather, left}
		}
	}
	return best
}
