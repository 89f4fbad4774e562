package dip

import (
	"iter"

	"dipworks/api"
)

// standing is how many bathers have a place, those of the least numbers, and how many hands are left.
type standing struct {
	placed int
	left   left
}

// begin returns the standing when no bather has a place yet.
func begin(x truth) standing {
	var s standing
	for place := range x.places() {
		s.left = s.left.changed(place, hands.plus, x.has(place.Dipper))
	}
	return s
}

// after returns the standing when the next bather has a place too.
func (s standing) after(x truth, place api.DipPlace) standing {
	return standing{placed: s.placed + 1, left: s.left.changed(place, hands.minus, x.needs(s.placed))}
}

// open goes through the places at which the next bather breaks no rule, in order.
func (s standing) open(x truth) iter.Seq[api.DipPlace] {
	return func(yield func(api.DipPlace) bool) {
		for place := range s.left.places(x.needs(s.placed).within) {
			if x.meet(s.placed, place) && !yield(place) {
				return
			}
		}
	}
}

// firstPlan returns the first plan that is right in a truth, and whether there is one.
func firstPlan(x truth) (plan []api.DipPlace, is bool) {
	var trial [api.DipBathers]api.DipPlace
	hopeless := map[standing]bool{}
	var goOn func(s standing) bool
	goOn = func(s standing) bool {
		if s.placed == x.bathers() {
			return true
		}
		if hopeless[s] {
			return false
		}
		right := false
	places:
		for place := range s.open(x) {
			trial[s.placed] = place
			if goOn(s.after(x, place)) {
				right = true
				break places
			}
		}
		hopeless[s] = !right
		return right
	}
	if !goOn(begin(x)) {
		return nil, false
	}
	plan = make([]api.DipPlace, x.bathers())
	copy(plan, trial[:])
	return plan, true
}

// hasPlan returns whether some plan is right in a truth.
func hasPlan(x truth) bool {
	_, is := firstPlan(x)
	return is
}
