package tide

import "dipworks/api"

// valid returns whether a tide is valid.
func valid(t api.Tide) bool {
	// Looks are held against marks and sand, which must be valid before.
	return validMarks(t.Marks) && validSand(t.Sand) && validLooks(t)
}

func validMarks(marks []api.TideMark) bool {
	if len(marks) < 2 || len(marks) > api.TideMarks {
		return false
	}
	for i, m := range marks {
		if !within(m.Minute, 0, api.TideMinutes) || !narrow(m.Height) {
			return false
		}
		if i > 0 && m.Minute-marks[i-1].Minute < api.TideApart {
			return false
		}
	}
	return true
}

func validSand(sand []api.Span) bool {
	if len(sand) < 1 || len(sand) > api.TidePlaces {
		return false
	}
	for _, s := range sand {
		if !narrow(s) {
			return false
		}
	}
	return true
}

func validLooks(t api.Tide) bool {
	if len(t.Looks) > api.TideLooks {
		return false
	}
	for _, l := range t.Looks {
		if !hasPlace(t, l.Place) || !hasMinute(t, l.Minute) || !inHeight(l.Depth) {
			return false
		}
	}
	return true
}

// hasPlace returns whether a tide has the place.
func hasPlace(t api.Tide, place int) bool {
	return within(place, 0, len(t.Sand)-1)
}

// hasMinute returns whether a minute is one of a tide with valid marks.
func hasMinute(t api.Tide, minute int) bool {
	return within(minute, t.Marks[0].Minute, t.Marks[len(t.Marks)-1].Minute)
}

// isDepth returns whether a number can be a depth.
func isDepth(n int) bool {
	return within(n, 0, api.TideHeight)
}

// inHeight returns whether a span is valid, and within what heights and depths can be.
func inHeight(s api.Span) bool {
	return isDepth(s.Lo) && isDepth(s.Hi) && s.Lo <= s.Hi
}

// narrow returns whether a span can be that of a height, or of sand.
func narrow(s api.Span) bool {
	return inHeight(s) && s.Hi-s.Lo <= api.TideWide
}

// within returns whether n is from lo to hi.
func within(n, lo, hi int) bool {
	return lo <= n && n <= hi
}
