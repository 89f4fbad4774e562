package boat

import "dipworks/api"

// search is up to which number is looked, from 0 on, and what can be with the one that is looked for.
type search[T ~int] struct {
	most T
	can  func(n T) bool
}

// find returns the least number with which it can be, and whether there is one.
func find[T ~int](s search[T]) (T, bool) {
	for n := T(0); n <= s.most; n++ {
		if s.can(n) {
			return n, true
		}
	}
	return 0, false
}

// least returns the least number with which it can be. It refuses the call if there is none.
func least[T ~int](s search[T]) T {
	n, is := find(s)
	require(is, api.ErrNone)
	return n
}
