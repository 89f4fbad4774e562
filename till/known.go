package till

import (
	"dipworks/api"
	"dipworks/ticket"
)

// areTickets returns whether tickets are valid, without a look at their truths: of valid ones it is only wrong to ask for a ticket that there is not.
func areTickets(t api.Tickets) bool {
	_, e := ticket.Turn(t, -1)
	return e == api.ErrRange
}

// hasTruth returns whether valid tickets have a truth.
func hasTruth(t api.Tickets) bool {
	_, e := ticket.Clash(t)
	return e == api.ErrNone
}

// told returns what another layer tells, and refuses the call with the error of that layer.
func told[T any](x T, e api.Errno) T {
	require(e == api.OK, e)
	return x
}

// outOfTurn returns the span, of all truths, of how many times a ticket is not in turn: once, or not at all.
func outOfTurn(t api.Tickets, n int) api.Span {
	switch told(ticket.Turn(t, n)) {
	case api.TicketAlways:
		return api.Span{Lo: 0, Hi: 0}
	case api.TicketPerhaps:
		return api.Span{Lo: 0, Hi: 1}
	default:
		return api.Span{Lo: 1, Hi: 1}
	}
}

// allOutOfTurn returns the span, of all truths, of how many tickets are not in turn.
func allOutOfTurn(t api.Tickets) api.Span {
	return told(ticket.Wrong(t))
}

// waits returns the span, of all truths, of how many minutes a ticket waits. It can have been bought at any minute of its span in each truth in which its door is not closed earlier: so the longest wait is from the earliest minute to the latest one, and the shortest one is between the other two ends, or none at all if these cross.
func waits(t api.Tickets, n int) api.Span {
	bought, door, e := ticket.Minutes(t, n)
	require(e == api.OK, e)
	return api.Span{Lo: max(0, door.Lo-bought.Hi), Hi: door.Hi - bought.Lo}
}
