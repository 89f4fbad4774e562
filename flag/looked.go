package flag

import (
	"iter"
	"slices"

	"dipworks/api"
)

// looked is a valid flag that is looked at.
type looked struct{ api.Flag }

// hours goes through the hours from one on.
func (x looked) hours(from int) iter.Seq[int] {
	return func(yield func(int) bool) {
		for hour := from; hour < len(x.Hours); hour++ {
			if !yield(hour) {
				return
			}
		}
	}
}

// agrees returns whether all that was seen in an hour is right if the flag was up in it, or if it was not.
func (x looked) agrees(hour int, up bool) bool {
	for _, s := range x.Seen {
		if s.Hour == hour && s.Up != up {
			return false
		}
	}
	return true
}

func (x looked) count(which counted) int {
	return x.tally(which).sum()
}

// truths returns how many there are.
func (x looked) truths() int {
	return x.count(everyTruth())
}

// under returns whether the flag was up in some hour from one to before another one.
func (x looked) under(from, to int) int {
	switch x.count(staysDown{from: from, to: to}) {
	case 0:
		return api.FlagAlways
	case x.truths():
		return api.FlagNever
	}
	return api.FlagPerhaps
}

// without returns the same flag as if some of what was seen had not been written down.
func (x looked) without(seen set) looked {
	// To leave one out moves those behind it, so this is done to a copy.
	left := make([]api.FlagSeen, len(x.Seen))
	copy(left, x.Seen)
	for n := len(left) - 1; n >= 0; n-- {
		if seen.has(n) {
			left = slices.Delete(left, n, n+1)
		}
	}
	x.Seen = left
	return x
}

// wrong returns the fewest of what was seen without which there is a truth. It refuses the call if there is one with all.
func (x looked) wrong() set {
	require(x.truths() == 0, api.ErrNone)
	fewest := first(len(x.Seen))
	for seen := range fewest {
		// The lesser sets come first, so that another one has to be of fewer.
		if seen.size() < fewest.size() && x.without(seen).truths() > 0 {
			fewest = seen
		}
	}
	return fewest
}
