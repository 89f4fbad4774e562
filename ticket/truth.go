package ticket

import "dipworks/api"

// minutes is when a ticket was bought, and when its door was closed.
type minutes struct{ bought, door int }

// absent stands where there is no ticket. It is so long ago that its half hour is over before the minute 0; as it does not wait, it passes no one over, and no one passes it over.
var absent = minutes{bought: -api.TicketHalf, door: -api.TicketHalf}

// waits returns how many minutes a ticket waits.
func (m minutes) waits() int {
	return m.door - m.bought
}

// waiting returns whether a ticket waits at a minute.
func (m minutes) waiting(minute int) bool {
	return within(minute, m.bought, m.door)
}

// inside returns whether a minute is in a ticket's half hour.
func (m minutes) inside(minute int) bool {
	return within(minute, m.door, m.door+api.TicketHalf-1)
}

// meets returns whether two half hours have minutes in common.
func (m minutes) meets(other minutes) bool {
	return max(m.door-other.door, other.door-m.door) < api.TicketHalf
}

// truth is the minutes of all tickets.
type truth [api.TicketMany]minutes

// withoutTickets returns the truth in which there is no ticket.
func withoutTickets() truth {
	var x truth
	for ticket := range x {
		x[ticket] = absent
	}
	return x
}

// before returns whether a ticket is before another one.
func (x truth) before(ticket, other int) bool {
	if x[ticket].bought == x[other].bought {
		return ticket < other
	}
	return x[ticket].bought < x[other].bought
}

// passes returns whether a ticket passes another one over.
func (x truth) passes(ticket, other int) bool {
	return x.before(other, ticket) && x[other].door > x[ticket].door
}

// outOfTurn returns whether a ticket passes any other one over.
func (x truth) outOfTurn(ticket int) bool {
	for other := range x {
		if x.passes(ticket, other) {
			return true
		}
	}
	return false
}

// inTurn returns whether a ticket passes no one over.
func (x truth) inTurn(ticket int) bool {
	return !x.outOfTurn(ticket)
}

// hasTurn returns whether it is a ticket's turn at a minute.
func (x truth) hasTurn(ticket, minute int) bool {
	if !x[ticket].waiting(minute) {
		return false
	}
	for other, m := range x {
		if m.waiting(minute) && x.before(other, ticket) {
			return false
		}
	}
	return true
}

// longest returns how many minutes the ticket waits that waits longest.
func (x truth) longest() int {
	most := 0
	for _, m := range x {
		most = max(most, m.waits())
	}
	return most
}

// busiest returns how many huts are not free at the minute at which most are not.
func (x truth) busiest() int {
	most := 0
	for _, m := range x {
		// Most are not free at one of the minutes at which a door is closed.
		if m != absent {
			most = max(most, x.busy(m.door))
		}
	}
	return most
}

// busy returns how many huts are not free at a minute. These are as many as half hours, as those of one hut do not meet.
func (x truth) busy(minute int) int {
	many := 0
	for _, m := range x {
		if m.inside(minute) {
			many++
		}
	}
	return many
}

// wrong returns how many tickets are not in turn.
func (x truth) wrong() int {
	return setOf(len(x), x.outOfTurn).size()
}
