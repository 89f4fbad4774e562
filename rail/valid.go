package rail

import (
	"slices"

	"dipworks/api"
	"dipworks/towel"
)

// valid returns whether a rail is valid.
func valid(r api.Rail) bool {
	if !isMany(r.Stock) || !isWithin(r.Hours, 1, api.RailHours) || !isWithin(r.Price, 0, api.RailPrice) || len(r.Lines) > api.RailLines {
		return false
	}
	if slices.ContainsFunc([]hours{hours(r.Sun), hours(r.Rain), hours(r.Perhaps)}, until(r.Hours).lacks) {
		return false
	}
	for _, l := range r.Lines {
		if !isWithin(l.Many, 1, api.RailMany) || !isWithin(l.At, 0, r.Hours-1) || !isSpan(l.Wet, 1, api.RailWet) {
			return false
		}
	}
	return areTowels(r.Towels)
}

// areTowels returns whether towels are valid, without a look at their truths: of valid ones it is only wrong to ask for a bather that there is not.
func areTowels(t api.Towels) bool {
	_, e := towel.Own(t, -1)
	return e == api.ErrRange
}

// isOf returns whether a number is that of an element.
func isOf[T any](list []T, n int) bool {
	return isWithin(n, 0, len(list)-1)
}

func isHourOrEnd(r api.Rail, n int) bool {
	return isWithin(n, 0, r.Hours)
}

// isMany returns whether there can be so many towels.
func isMany(n int) bool {
	return isWithin(n, 0, api.RailStock)
}

// isSpan returns whether a span is a valid one within the least and the greatest number.
func isSpan(s api.Span, least, most int) bool {
	return least <= s.Lo && s.Lo <= s.Hi && s.Hi <= most
}

// isWithin returns whether a number is from the least to the greatest one.
func isWithin(n, least, most int) bool {
	return least <= n && n <= most
}
