package till

import (
	"slices"

	"dipworks/api"
)

// valid returns whether a till is valid.
func valid(t api.Till) bool {
	each := []pence{pence(t.Price), pence(t.Fine), pence(t.Wait)}
	return areTickets(t.Tickets) && !slices.ContainsFunc(each, pence.isBeyond)
}

// isTicket returns whether a number is that of a ticket.
func isTicket(t api.Till, n int) bool {
	return isWithin(n, 0, len(t.Tickets.Tickets)-1)
}

// areEntries returns whether all entries of a book are of tickets, and of kinds that there are.
func areEntries(t api.Till, book []api.TillEntry) bool {
	for _, x := range book {
		if !isTicket(t, x.Ticket) || !isWithin(x.Kind, api.TillPrice, api.TillBack) {
			return false
		}
	}
	return true
}

// canSplit returns whether so many pence can be split by these parts.
func canSplit(amount int, parts []int) bool {
	isNone := func(part int) bool { return !isWithin(part, 0, api.TillPart) }
	return isWithin(amount, 0, api.TillSum) && len(parts) <= api.TillParts && !slices.ContainsFunc(parts, isNone)
}

// isWithin returns whether a number is from the least to the greatest one.
func isWithin(n, least, most int) bool {
	return least <= n && n <= most
}
