package towel

import "iter"

// counts is which counts are looked at.
type counts interface {
	// hut returns whether the count of a hut is looked at, half whether that of a half hour is.
	hut(n int) bool
	half(n int) bool
}

// every is all counts.
type every struct{}

func (every) hut(int) bool  { return true }
func (every) half(int) bool { return true }

// only is the counts of some huts and of some half hours.
type only struct{ huts, halves set }

func (o only) hut(n int) bool  { return o.huts.has(n) }
func (o only) half(n int) bool { return o.halves.has(n) }

// onlySome goes through all choices of counts of so many huts and half hours: the fewest first, of these the least set of huts, then the least one of half hours.
func onlySome(huts, halves int) iter.Seq[only] {
	return func(yield func(only) bool) {
		// The huts are the greater bits, so that they decide first.
		for s := range bySize(sum(huts, halves)) {
			if !yield(only{huts: s >> halves, halves: s & first(halves)}) {
				return
			}
		}
	}
}
