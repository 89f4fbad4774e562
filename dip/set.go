package dip

import (
	"cmp"
	"iter"
	"math/bits"
	"slices"

	"dipworks/api"
)

// set is a set of bathers, of dippers or of hours: the bit n is set just if the one with the number n is in it.
type set int

// first returns the set of the first ones, so many.
func first(many int) set {
	return 1<<many - 1
}

func (s set) has(n int) bool {
	return s>>n&1 == 1
}

func (s set) size() int {
	return bits.OnesCount(uint(s))
}

// smaller is below 0 if the set has fewer elements than another one, larger if it has more.
func (s set) smaller(other set) int {
	return cmp.Compare(s.size(), other.size())
}

func (s set) larger(other set) int {
	return other.smaller(s)
}

// sets goes through all sets of so many, in an order by size, and those of the same size by number.
func sets(many int, order func(one, other set) int) iter.Seq[set] {
	var list []set
	for s := range first(many) + 1 {
		list = append(list, s)
	}
	slices.SortStableFunc(list, order)
	return slices.Values(list)
}

// chosen returns those elements that are in a set, in order.
func chosen[T any](list []T, which set) []T {
	var some []T
	for n, x := range list {
		if which.has(n) {
			some = append(some, x)
		}
	}
	return some
}

// wanted is what one is looking for.
type wanted[T any] struct {
	suits func(T) bool
}

// find returns the first value that suits. It refuses the call if there is none.
func find[T any](values iter.Seq[T], w wanted[T]) T {
	for v := range values {
		if w.suits(v) {
			return v
		}
	}
	panic(api.ErrNone)
}
