package ticket

import "dipworks/api"

// valid returns whether tickets are valid.
func valid(t api.Tickets) bool {
	if !within(t.Huts, 1, api.TicketHuts) || len(t.Tickets) > api.TicketMany {
		return false
	}
	for _, x := range t.Tickets {
		if !within(x.Hut, 0, t.Huts-1) || !narrow(x.Bought) || !narrow(x.Door) {
			return false
		}
	}
	return true
}

// narrow returns whether a span can be that of the minutes of one event.
func narrow(s api.Span) bool {
	// The ends come first, as the difference of any two numbers need not be a number.
	return isMinute(s.Lo) && isMinute(s.Hi) && within(s.Hi-s.Lo, 0, api.TicketWide)
}

// isMinute returns whether a number is a minute.
func isMinute(n int) bool {
	return within(n, 0, api.TicketMinutes)
}

// within returns whether n is from lo to hi.
func within(n, lo, hi int) bool {
	return lo <= n && n <= hi
}
