package dip

import "dipworks/api"

// keeps stands for the rule that a bather breaks who breaks none.
const keeps = 0

// breaks returns the first rule that the next bather breaks at a place.
func (s standing) breaks(x truth, place api.DipPlace) int {
	switch {
	case !x.meet(s.placed, place):
		return api.DipHour
	case !x.needs(s.placed).within(s.left.at(place)):
		return api.DipHands
	}
	return keeps
}

// fault is that a bather breaks a rule.
type fault struct{ bather, rule int }

// firstFault returns what the first bather breaks who breaks a rule in a truth, and no rule if the plan is right in it.
func firstFault(x truth, plan []api.DipPlace) fault {
	s := begin(x)
	for bather, place := range plan {
		if rule := s.breaks(x, place); rule != keeps {
			return fault{bather: bather, rule: rule}
		}
		s = s.after(x, place)
	}
	return fault{rule: keeps}
}
