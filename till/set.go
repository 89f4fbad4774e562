package till

// set is a set of tickets: the bit n is set just if the one with the number n is in it.
type set int

// those returns the set of those, of the first ones, of which something is so.
func those(many int, is func(n int) bool) set {
	var such set
	for n := range many {
		if is(n) {
			such |= 1 << n
		}
	}
	return such
}
