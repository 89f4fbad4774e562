package boat

import "dipworks/api"

// rows returns the span of the rows in which a boat can be in a minute.
func (x looked) rows(boat, minute int) api.Span {
	return x.water().rows(x.where(boat)[minute])
}

// nearest returns the span of a boat's nearest rows. The greatest one is the least one beyond which it cannot have stayed.
func (x looked) nearest(boat int) api.Span {
	t := x.where(boat)
	ever := union(t[:]...)
	farthest := least(search[int]{most: x.Deep - 1, can: func(row int) bool {
		beyond := x.given(boat)
		beyond.row = row + 1
		return !x.can(beyond)
	}})
	return api.Span{Lo: x.water().rows(ever).Lo, Hi: farthest}
}

// broke returns whether a boat was nearer than a row.
func (x looked) broke(boat, row int) int {
	switch near := x.nearest(boat); {
	case near.Hi < row:
		return api.BoatAlways
	case near.Lo < row:
		return api.BoatPerhaps
	default:
		return api.BoatNever
	}
}

// met returns the first minute in which two boats can have been at the same place. It refuses the call if there is none.
func (x looked) met(boat, other int) int {
	both := x.where(boat).and(x.where(other))
	return least(search[int]{most: x.Last, can: both.isSomewhere})
}

// visitors is the boats that surely were at a place, and those that perhaps were.
type visitors struct{ surely, perhaps set }

// who returns the boats that were at a place in a minute.
func (x looked) who(minute, place int) visitors {
	boats := func(such func(places set, place int) bool) set {
		return those(len(x.Seen), func(boat int) bool {
			return such(x.where(boat)[minute], place)
		})
	}
	return visitors{surely: boats(set.isOnly), perhaps: boats(set.has)}
}

// slowest returns the least speed with which there is a truth for a boat. It refuses the call if there is none.
func (x looked) slowest(boat int) int {
	return least(search[int]{most: api.BoatSpeed, can: func(speed int) bool {
		return x.can(asked{boat: boat, speed: speed})
	}})
}

// wrong returns the fewest sightings of a boat without which there is a truth. It refuses the call if there is one with all.
func (x looked) wrong(boat int) set {
	require(!x.can(x.given(boat)), api.ErrNone)
	all := first(len(x.Seen[boat]))
	ofSize := func(size int) search[set] {
		return search[set]{most: all, can: func(some set) bool {
			rest := x.given(boat)
			rest.without = some
			return some.size() == size && x.can(rest)
		}}
	}
	fewest := least(search[int]{most: all.size(), can: func(size int) bool {
		_, is := find(ofSize(size))
		return is
	}})
	return least(ofSize(fewest))
}
