package horse

import "dipworks/api"

// valid returns whether horses are valid.
func valid(h api.Horses) bool {
	if !within(h.Pace, 0, api.HorsePace) || len(h.Moves) > api.HorseMoves {
		return false
	}
	for _, m := range h.Moves {
		if !validMove(m) {
			return false
		}
	}
	return true
}

func validMove(m api.HorseMove) bool {
	return within(m.At, 0, api.HorseAt) && within(m.Place, 0, api.HorsePlace) && validLong(m.Long)
}

func validLong(s api.Span) bool {
	return s.Lo >= 1 && s.Hi <= api.HorseLong && s.Lo <= s.Hi
}

// hasMove returns whether horses have the move.
func hasMove(h api.Horses, move int) bool {
	return within(move, 0, len(h.Moves)-1)
}

// isPlan returns whether a list is a plan, right or not.
func isPlan(h api.Horses, plan []int) bool {
	if len(plan) != len(h.Moves) {
		return false
	}
	for _, horse := range plan {
		if !within(horse, 0, api.HorseMoves-1) {
			return false
		}
	}
	return true
}

// isMinute returns whether a move can be under way in the minute, or has just ended.
func isMinute(n int) bool {
	return within(n, 0, api.HorseAt+api.HorseLong)
}

// isMany returns whether there can be so many horses.
func isMany(n int) bool {
	return within(n, 0, api.HorseMoves)
}

// within returns whether n is from lo to hi.
func within(n, lo, hi int) bool {
	return lo <= n && n <= hi
}
