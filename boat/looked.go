package boat

import "dipworks/api"

// asked is what is asked: where a boat can be if it goes so many steps in a minute at most, stays in a row or farther from the beach, and is not held to some of its sightings.
type asked struct {
	boat, speed, row int
	without          set
}

// looked is valid boats that are looked at, and where they can be, by what was asked.
type looked struct {
	api.Boats
	known map[asked]track
}

func look(b api.Boats) looked {
	return looked{b, map[asked]track{}}
}

func (x looked) water() water {
	return water{wide: x.Wide, deep: x.Deep}
}

// holds returns what a boat is held to.
func (x looked) holds(a asked) []hold {
	list := []hold{distance{a.row}}
	for _, s := range without(x.Seen[a.boat], a.without.has) {
		list = append(list, sighting{s})
	}
	return list
}

// without returns the list without some of its elements.
func without[T any](list []T, leftOut func(n int) bool) []T {
	// To leave one out moves those behind it, so this is done to a copy.
	left := make([]T, len(list))
	copy(left, list)
	for n := len(left) - 1; n >= 0; n-- {
		if leftOut(n) {
			left = append(left[:n], left[n+1:]...)
		}
	}
	return left
}

// track returns where a boat can be in each minute. By what comes before a minute it can have come to a place, and by what comes after it, it can have left it: both together are a truth.
func (x looked) track(a asked) track {
	if t, is := x.known[a]; is {
		return t
	}
	holds := x.holds(a)
	come := sailed(x.water(), forward(x.Last), a.speed, holds)
	left := sailed(x.water(), backward(x.Last), a.speed, holds)
	t := come.and(left)
	x.known[a] = t
	return t
}

// can returns whether there is a truth.
func (x looked) can(a asked) bool {
	return x.track(a).isSomewhere(0)
}

// given returns what is asked of a boat if all is as it is given.
func (x looked) given(boat int) asked {
	return asked{boat: boat, speed: x.Speed}
}

// where returns where a boat can be in each minute. It refuses the call if there is no truth.
func (x looked) where(boat int) track {
	require(x.can(x.given(boat)), api.ErrClash)
	return x.track(x.given(boat))
}
