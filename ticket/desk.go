package ticket

import (
	"iter"
	"slices"

	"dipworks/api"
)

// desk is valid tickets: for how many huts they are, and the list of them.
type desk struct {
	huts int
	list []api.Ticket
}

// hasTicket returns whether there is the ticket.
func (d desk) hasTicket(ticket int) bool {
	return within(ticket, 0, len(d.list)-1)
}

// hasHut returns whether there is the hut.
func (d desk) hasHut(hut int) bool {
	return within(hut, 0, d.huts-1)
}

// eachTruth yields all truths, perhaps none.
func (d desk) eachTruth() iter.Seq[truth] {
	return func(yield func(truth) bool) {
		x := withoutTickets()
		var settle func(ticket int) bool
		settle = func(ticket int) bool {
			if ticket == len(d.list) {
				return yield(x)
			}
			t := d.list[ticket]
			for bought := t.Bought.Lo; bought <= t.Bought.Hi; bought++ {
				// Nobody is in a hut before buying.
				for door := max(bought, t.Door.Lo); door <= t.Door.Hi; door++ {
					x[ticket] = minutes{bought: bought, door: door}
					if d.fits(x, ticket) && !settle(ticket+1) {
						return false
					}
				}
			}
			return true
		}
		settle(0)
	}
}

// fits returns whether a ticket's half hour and those of the tickets that are settled already, which come before it in the list, leave one another room.
func (d desk) fits(x truth, ticket int) bool {
	for other := range ticket {
		same := d.list[other].Hut == d.list[ticket].Hut
		if same && x[other].meets(x[ticket]) {
			return false
		}
	}
	return true
}

// truths yields all truths, and refuses the call if there is none.
func (d desk) truths() iter.Seq[truth] {
	return func(yield func(truth) bool) {
		possible := false
		for x := range d.eachTruth() {
			possible = true
			if !yield(x) {
				return
			}
		}
		require(possible, api.ErrClash)
	}
}

// free returns whether a hut is free at a minute in a truth.
func (d desk) free(x truth, hut, minute int) bool {
	for ticket, t := range d.list {
		if t.Hut == hut && x[ticket].inside(minute) {
			return false
		}
	}
	return true
}

// clash returns the fewest tickets that cannot all be as they were written, and refuses the call if all can.
func (d desk) clash() set {
	for size := range len(d.list) + 1 {
	sets:
		for s := range all(len(d.list)) + 1 {
			if s.size() != size {
				continue
			}
			for range d.only(s).eachTruth() {
				continue sets
			}
			return s
		}
	}
	panic(api.ErrNone)
}

// only returns the desk with no other tickets than those of a set.
func (d desk) only(s set) desk {
	rest := make([]api.Ticket, len(d.list))
	copy(rest, d.list)
	for ticket := len(rest) - 1; ticket >= 0; ticket-- {
		if !s.has(ticket) {
			rest = slices.Delete(rest, ticket, ticket+1)
		}
	}
	return desk{huts: d.huts, list: rest}
}
