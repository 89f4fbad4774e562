package serve

import "dipworks/api"

// valid returns whether a serve with a valid tide is valid.
func valid(s api.Serve) bool {
	if !isSoft(s.Soft) || !isWithin(s.Pace, 0, api.HorsePace) || len(s.Bathers) > api.ServeBathers {
		return false
	}
	for _, b := range s.Bathers {
		if !isWithin(b.Hut, 0, api.ServeHuts-1) || !isStay(s.Tide, b) || !isWater(b) {
			return false
		}
	}
	return true
}

func isSoft(s api.Span) bool {
	return 1 <= s.Lo && s.Lo <= s.Hi && s.Hi <= api.ServeSoft
}

// isStay returns whether a bather comes and goes while there is a tide.
func isStay(t api.Tide, b api.ServeBather) bool {
	first, last := t.Marks[0].Minute, t.Marks[len(t.Marks)-1].Minute
	return first <= b.From && b.From < b.To && b.To <= min(last, api.ServeTo)
}

// isWater returns whether there can be as much water as a bather wants.
func isWater(b api.ServeBather) bool {
	return 0 <= b.Least && b.Least <= b.Most && b.Most <= api.TideHeight
}

// isBather returns whether a number is that of a bather.
func isBather(s api.Serve, n int) bool {
	return isWithin(n, 0, len(s.Bathers)-1)
}

// isPlan returns whether a list is a plan, right or not.
func isPlan(s api.Serve, plan []int) bool {
	if len(plan) != len(s.Bathers) {
		return false
	}
	for _, place := range plan {
		if !isWithin(place, 0, len(s.Tide.Sand)-1) {
			return false
		}
	}
	return true
}

// isWithin returns whether a number is from the least to the greatest one.
func isWithin(n, least, most int) bool {
	return least <= n && n <= most
}
