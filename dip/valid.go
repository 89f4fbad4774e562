package dip

import "dipworks/api"

// valid returns whether dips are valid.
func valid(d api.Dips) bool {
	if !isWithin(d.Hours, 1, api.DipHours) || len(d.Dippers) > api.DipDippers || len(d.Bathers) > api.DipBathers {
		return false
	}
	for _, x := range d.Dippers {
		if !isSpan(x.Hands, 0, api.DipMost) || !areHours(d, x.Hours) {
			return false
		}
	}
	for _, x := range d.Bathers {
		if !isSpan(x.Needs, 1, api.DipNeeds) || !areHours(d, x.Hours) {
			return false
		}
	}
	return true
}

// areHours returns whether a number is a set of hours.
func areHours(d api.Dips, hours int) bool {
	return isWithin(hours, 0, int(first(d.Hours)))
}

func isHour(d api.Dips, n int) bool {
	return isWithin(n, 0, d.Hours-1)
}

// isPlan returns whether a list is a plan, right or not.
func isPlan(d api.Dips, plan []api.DipPlace) bool {
	if len(plan) != len(d.Bathers) {
		return false
	}
	for _, place := range plan {
		if !isHour(d, place.Hour) || !isWithin(place.Dipper, 0, len(d.Dippers)-1) {
			return false
		}
	}
	return true
}

// isSpan returns whether a span is a valid one within the least and the greatest number.
func isSpan(s api.Span, least, most int) bool {
	return least <= s.Lo && s.Lo <= s.Hi && s.Hi <= most
}

// isWithin returns whether a number is from the least to the greatest one.
func isWithin(n, least, most int) bool {
	return least <= n && n <= most
}
