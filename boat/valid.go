package boat

import "dipworks/api"

// valid returns whether boats are valid.
func valid(b api.Boats) bool {
	if !isWithin(b.Wide, 1, api.BoatWide) || !isWithin(b.Deep, 1, api.BoatDeep) || !isWithin(b.Speed, 0, api.BoatSpeed) || !isWithin(b.Last, 0, api.BoatLast) || len(b.Seen) > api.BoatBoats {
		return false
	}
	for _, list := range b.Seen {
		if !areSightings(b, list) {
			return false
		}
	}
	return true
}

// areSightings returns whether a boat's sightings are valid.
func areSightings(b api.Boats, list []api.BoatSeen) bool {
	if len(list) > api.BoatSightings {
		return false
	}
	before := 0
	for _, s := range list {
		if !isWithin(s.Minute, before, b.Last) || !isSpan(s.Columns, b.Wide-1) || !isSpan(s.Rows, b.Deep-1) {
			return false
		}
		before = s.Minute
	}
	return true
}

func isBoat(b api.Boats, n int) bool {
	return isWithin(n, 0, len(b.Seen)-1)
}

func isMinute(b api.Boats, n int) bool {
	return isWithin(n, 0, b.Last)
}

func isPlace(b api.Boats, n int) bool {
	return isWithin(n, 0, b.Wide*b.Deep-1)
}

// isRow returns whether a number is that of a row, or of the one that would be beyond the last one.
func isRow(b api.Boats, n int) bool {
	return isWithin(n, 0, b.Deep)
}

// isSpan returns whether a span is a valid one of numbers from 0 to the greatest one.
func isSpan(s api.Span, most int) bool {
	return 0 <= s.Lo && s.Lo <= s.Hi && s.Hi <= most
}

// isWithin returns whether a number is from the least to the greatest one.
func isWithin(n, least, most int) bool {
	return least <= n && n <= most
}
