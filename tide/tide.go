// Package tide is layer 1: see shared/doc/01-tide.md. It tells how high the water stands, how deep it is at each place, and how high the sand lies there, as far as looks at the steps tell.
package tide

import "dipworks/api"

// check returns the beach of a tide, and refuses the call unless the tide is valid.
func check(t api.Tide) *beach {
	require(valid(t), api.ErrArg)
	return newBeach(t)
}

// Height returns how high the water stands at a minute.
func Height(t api.Tide, minute int) (api.Span, api.Errno) {
	return attempt(func() api.Span {
		b := check(t)
		require(hasMinute(t, minute), api.ErrRange)
		b.settle()
		return b.height(minute)
	})
}

// Depth returns how deep it is at a place at a minute.
func Depth(t api.Tide, place, minute int) (api.Span, api.Errno) {
	return attempt(func() api.Span {
		b := check(t)
		require(hasPlace(t, place) && hasMinute(t, minute), api.ErrRange)
		b.settle()
		return b.depth(place, minute)
	})
}

// Sand returns how high the sand lies at a place.
func Sand(t api.Tide, place int) (api.Span, api.Errno) {
	return attempt(func() api.Span {
		b := check(t)
		require(hasPlace(t, place), api.ErrRange)
		b.settle()
		return b.sand(place)
	})
}

// Served returns the minutes at which a place surely has as much water as is wanted.
func Served(t api.Tide, place, least, most int) ([]api.Span, api.Errno) {
	return attempt(func() []api.Span {
		b := check(t)
		require(hasPlace(t, place) && isDepth(least) && isDepth(most), api.ErrRange)
		b.settle()
		return b.served(place, least, most)
	})
}

// First returns the first minute at which a place has enough water: surely, or perhaps.
func First(t api.Tide, place, least, from int, sure bool) (minute int, e api.Errno) {
	return attempt(func() int {
		b := check(t)
		require(hasPlace(t, place) && isDepth(least) && hasMinute(t, from), api.ErrRange)
		b.settle()
		return b.first(place, least, from, sure)
	})
}

// Places returns which places have as much water as is wanted.
func Places(t api.Tide, minute, least, most int) (surely, perhaps int, e api.Errno) {
	x, e := attempt(func() sets {
		b := check(t)
		require(hasMinute(t, minute) && isDepth(least) && isDepth(most), api.ErrRange)
		b.settle()
		return b.places(minute, least, most)
	})
	return x.surely, x.perhaps, e
}

// Count returns how many truths there are.
func Count(t api.Tide) (int, api.Errno) {
	return attempt(func() int {
		return check(t).count()
	})
}

// Next returns where to look next, and how many truths that leaves at most.
func Next(t api.Tide, minute int) (place, left int, e api.Errno) {
	x, e := attempt(func() guess {
		b := check(t)
		require(hasMinute(t, minute), api.ErrRange)
		b.settle()
		return b.next(minute)
	})
	return x.place, x.left, e
}

// Clash returns which looks cannot all be right: the fewest such.
func Clash(t api.Tide) (looks int, e api.Errno) {
	return attempt(func() int {
		return check(t).clash()
	})
}
