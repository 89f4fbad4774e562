package till

import "dipworks/api"

// kind is a kind of entries.
type kind interface {
	// canBe returns whether an entry of a ticket can be of so many pence.
	canBe(n int, amount pence) bool
	// must returns whether something has to be booked of a ticket.
	must(n int) bool
	// adds returns what an entry of so many pence adds to what the book comes to.
	adds(amount pence) pence
}

// kinds are all kinds of entries, in the order of their numbers.
type kinds [api.TillBack]kind

// of returns the kind of a number.
func (k kinds) of(number int) kind {
	return k[number-api.TillPrice]
}

// price is what is paid for each ticket.
type price struct{ each pence }

func (p price) canBe(_ int, amount pence) bool {
	return amount == p.each
}

func (p price) must(_ int) bool {
	return true
}

func (p price) adds(amount pence) pence {
	return amount
}

// fine is what is paid, as a price is, for each ticket that is not in turn.
type fine struct {
	price
	tickets api.Tickets
}

// due returns the span, of all truths, of a ticket's fine.
func (f fine) due(n int) api.Span {
	return f.dueFor(outOfTurn(f.tickets, n))
}

// dueOfAll returns the span, of all truths, of all fines together. Its ends need not be the sums of theirs, as no truth need have all of these.
func (f fine) dueOfAll() api.Span {
	return f.dueFor(allOutOfTurn(f.tickets))
}

// dueFor returns the span of the fines of so many tickets.
func (f fine) dueFor(many api.Span) api.Span {
	return spanOf(many, rate[count]{f.each.times})
}

// canBe needs a truth with a fine: a ticket that is always in turn has none, not even one of no pence.
func (f fine) canBe(n int, amount pence) bool {
	return f.price.canBe(n, amount) && outOfTurn(f.tickets, n).Hi > 0
}

func (f fine) must(n int) bool {
	return f.due(n).Lo > 0
}

// back is what is given back to those who wait.
type back struct {
	each    pence
	tickets api.Tickets
}

// due returns the span, of all truths, of what a ticket gets back.
func (b back) due(n int) api.Span {
	return spanOf(waits(b.tickets, n), rate[minutes]{b.each.forWaiting})
}

// canBe looks at the ends alone: how long a ticket waits is known to 2 * TicketWide minutes, fewer than TillMinutes, so there is nothing between them.
func (b back) canBe(n int, amount pence) bool {
	s := b.due(n)
	return int(amount) == s.Lo || int(amount) == s.Hi
}

func (b back) must(n int) bool {
	return b.due(n).Lo > 0
}

func (b back) adds(amount pence) pence {
	return -amount
}
