package watch

import "dipworks/api"

// valid returns whether watches are valid.
func valid(w api.Watches) bool {
	return len(w.Owners) <= api.WatchOwners && len(w.Finds) <= api.WatchFinds && all(w.Owners, isOwner) && all(w.Finds, isFind)
}

func isOwner(o api.WatchOwner) bool {
	return isWithin(o.Set, 0, api.WatchMinutes) && isSpan(o.Gain, -api.WatchGain, api.WatchGain, api.WatchWide) && isWithin(o.Huts, 0, int(first(api.WatchHuts)))
}

func isFind(f api.WatchFind) bool {
	return isWithin(f.Hut, 0, api.WatchHuts-1) && isWithin(f.Minute, 0, api.WatchMinutes) && isSpan(f.Shows, 0, api.WatchDial-1, api.WatchShows)
}

// isSpan returns whether a span is a valid one within the least and the greatest number, and not too wide.
func isSpan(s api.Span, least, most, wide int) bool {
	// That it is within them comes first: only then its width surely is a number.
	return least <= s.Lo && s.Lo <= s.Hi && s.Hi <= most && s.Hi-s.Lo <= wide
}

// isWithin returns whether a number is from the least to the greatest one.
func isWithin(n, least, most int) bool {
	return least <= n && n <= most
}

// isOf returns whether a number is that of an element.
func isOf[T any](list []T, n int) bool {
	return isWithin(n, 0, len(list)-1)
}

// all returns whether all elements are such.
func all[T any](list []T, such func(T) bool) bool {
	for _, x := range list {
		if !such(x) {
			return false
		}
	}
	return true
}
