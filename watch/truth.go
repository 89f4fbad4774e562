package watch

import (
	"slices"

	"dipworks/api"
)

// truth is whose each find is, of the first finds so many.
type truth struct {
	owners [api.WatchFinds]int
	finds  int
}

// plus returns the truth when the next find is an owner's.
func (x truth) plus(owner int) truth {
	x.owners[x.finds] = owner
	x.finds++
	return x
}

// list returns whose each find is.
func (x truth) list() []int {
	return slices.Clone(x.owners[:x.finds])
}

// fits is, for each find, the owners whose it can be by itself.
type fits []set

// truths returns all truths.
func (f fits) truths() map[truth]bool {
	found := map[truth]bool{}
	var deal func(x truth, had set)
	deal = func(x truth, had set) {
		if x.finds == len(f) {
			found[x] = true
			return
		}
		for owner := range api.WatchOwners {
			if f[x.finds].has(owner) && !had.has(owner) {
				deal(x.plus(owner), union(had, one(owner)))
			}
		}
	}
	deal(truth{}, 0)
	return found
}

// only returns some of the finds alone.
func (f fits) only(finds set) fits {
	// To leave one out moves those behind it, so this is done to a copy.
	left := make(fits, len(f))
	copy(left, f)
	for n := len(f) - 1; n >= 0; n-- {
		if !finds.has(n) {
			left = slices.Delete(left, n, n+1)
		}
	}
	return left
}

// clash returns the fewest finds such that with these alone there is no truth. It refuses the call if there is one with all.
func (f fits) clash() set {
	require(len(f.truths()) == 0, api.ErrNone)
	fewest := first(len(f))
	for finds := range fewest {
		// The lesser sets come first, so that another one has to be of fewer.
		if finds.size() < fewest.size() && len(f.only(finds).truths()) == 0 {
			fewest = finds
		}
	}
	return fewest
}
