package till

import (
	"iter"

	"dipworks/api"
)

// ledger is a book that is looked at, of how many tickets it can be, and what can be due of these, by kinds. The tickets have a truth.
type ledger struct {
	tickets int
	price   price
	fine    fine
	back    back
	book    []api.TillEntry
}

func newLedger(t api.Till, book []api.TillEntry) ledger {
	return ledger{
		tickets: len(t.Tickets.Tickets),
		price:   price{pence(t.Price)},
		fine:    fine{price{pence(t.Fine)}, t.Tickets},
		back:    back{pence(t.Wait), t.Tickets},
		book:    book,
	}
}

func (l ledger) kinds() kinds {
	return kinds{l.price, l.fine, l.back}
}

// item is of which ticket, and of which kind, an entry is.
type item struct{ ticket, kind int }

// line is an entry of a book: its number, and what it is of, with the kind itself.
type line struct {
	number int
	item   item
	kind   kind
	amount pence
}

// lines goes through the entries of the book, in order.
func (l ledger) lines() iter.Seq[line] {
	return func(yield func(line) bool) {
		for n, x := range l.book {
			if !yield(line{n, item{x.Ticket, x.Kind}, l.kinds().of(x.Kind), pence(x.Pence)}) {
				return
			}
		}
	}
}

// keeps stands for the rule that an entry breaks which breaks none.
const keeps = 0

// fault is that an entry breaks a rule.
type fault struct{ entry, rule int }

// fault returns what the first entry breaks that breaks a rule, and no rule if the book is right.
func (l ledger) fault() fault {
	found := fault{rule: keeps}
	booked := map[item]bool{}
lines:
	for x := range l.lines() {
		switch {
		case booked[x.item]:
			found = fault{x.number, api.TillTwice}
			break lines
		case !x.kind.canBe(x.item.ticket, x.amount):
			found = fault{x.number, api.TillWrong}
			break lines
		}
		booked[x.item] = true
	}
	return found
}

// gaps are the tickets of which something is missing in a book.
type gaps struct{ prices, fines, backs set }

// gaps returns what is missing in the book, which need not be right.
func (l ledger) gaps() gaps {
	booked := map[item]bool{}
	for x := range l.lines() {
		booked[x.item] = true
	}
	missing := func(number int) set {
		return those(l.tickets, func(n int) bool {
			return !booked[item{n, number}] && l.kinds().of(number).must(n)
		})
	}
	return gaps{missing(api.TillPrice), missing(api.TillFine), missing(api.TillBack)}
}

// sum returns what the book comes to. It refuses the call unless the book is right.
func (l ledger) sum() pence {
	require(l.fault().rule == keeps, api.ErrRefuse)
	var amounts []pence
	for x := range l.lines() {
		amounts = append(amounts, x.kind.adds(x.amount))
	}
	return sum(amounts...)
}
