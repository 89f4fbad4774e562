package dip

import "dipworks/api"

// dips is dips that are valid.
type dips struct{ api.Dips }

func (d dips) atBest() truth {
	return best{d}
}

func (d dips) atWorst() truth {
	return worst{best{d}}
}

// how returns whether something is right: in each truth, in some, or in none.
func (d dips) how(right func(truth) bool) int {
	switch {
	case right(d.atWorst()):
		return api.DipAlways
	case right(d.atBest()):
		return api.DipPerhaps
	}
	return api.DipNever
}

// helped returns whether some plan is surely right if there are just these bathers.
func (d dips) helped(bathers set) bool {
	d.Bathers = chosen(d.Bathers, bathers)
	return hasPlan(d.atWorst())
}

// enough returns whether some plan is surely right if there are just these dippers.
func (d dips) enough(dippers set) bool {
	d.Dippers = chosen(d.Dippers, dippers)
	return hasPlan(d.atWorst())
}

// fewest returns the fewest dippers who are enough. It refuses the call if not even all are.
func (d dips) fewest() set {
	return find(sets(len(d.Dippers), set.smaller), wanted[set]{suits: d.enough})
}

// most returns the most bathers who can all be helped.
func (d dips) most() set {
	return find(sets(len(d.Bathers), set.larger), wanted[set]{suits: d.helped})
}

// why returns the fewest bathers who cannot all be helped. It refuses the call if all bathers can.
func (d dips) why() set {
	return find(sets(len(d.Bathers), set.smaller), wanted[set]{suits: func(bathers set) bool { return !d.helped(bathers) }})
}
