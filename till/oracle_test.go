package till_test

import (
	"math/rand/v2"
	"slices"

	"dipworks/api"
)

// What the chapter says, written out for one truth after the other.

// truth is one truth: when each ticket was bought, and when each door was closed.
type truth struct{ bought, door []int }

// truths are all truths of tickets: all minutes of all spans, of which those are left that can be so.
func truths(t api.Tickets) (list []truth) {
	list = []truth{{}}
	for _, x := range t.Tickets {
		var longer []truth
		for _, y := range list {
			for b := x.Bought.Lo; b <= x.Bought.Hi; b++ {
				for d := x.Door.Lo; d <= x.Door.Hi; d++ {
					if z := (truth{append(slices.Clone(y.bought), b), append(slices.Clone(y.door), d)}); isPossible(t, z) {
						longer = append(longer, z)
					}
				}
			}
		}
		list = longer
	}
	return list
}

// isPossible is whether the last ticket of a truth goes with those before it.
func isPossible(t api.Tickets, x truth) bool {
	last := len(x.door) - 1
	for other := range last {
		apart := x.door[last] - x.door[other]
		if t.Tickets[last].Hut == t.Tickets[other].Hut && -30 < apart && apart < 30 {
			return false
		}
	}
	return x.door[last] >= x.bought[last]
}

// isOut is whether a ticket passes some other one over.
func (x truth) isOut(n int) bool {
	for other := range x.door {
		before := x.bought[other] < x.bought[n] || x.bought[other] == x.bought[n] && other < n
		if other != n && before && x.door[other] > x.door[n] {
			return true
		}
	}
	return false
}

// fine is a ticket's fine, fines all fines together, back what a ticket gets back.
func (x truth) fine(t api.Till, n int) int {
	if x.isOut(n) {
		return t.Fine
	}
	return 0
}

func (x truth) fines(t api.Till) (all int) {
	for n := range x.door {
		all += x.fine(t, n)
	}
	return all
}

func (x truth) back(t api.Till, n int) int {
	return (x.door[n] - x.bought[n]) / 10 * t.Wait
}

// taken is what a truth comes to: all prices and fines, less all that is given back.
func (x truth) taken(t api.Till) int {
	all := x.fines(t)
	for n := range x.door {
		all += t.Price - x.back(t, n)
	}
	return all
}

// book is the book of a truth; what is nothing is booked where it is wanted.
func (x truth) book(t api.Till, nothing func() bool) (book []api.TillEntry) {
	for n := range x.door {
		book = append(book, entry(n, api.TillPrice, t.Price))
		if x.isOut(n) && (t.Fine > 0 || nothing()) {
			book = append(book, entry(n, api.TillFine, t.Fine))
		}
		if back := x.back(t, n); back > 0 || nothing() {
			book = append(book, entry(n, api.TillBack, back))
		}
	}
	return book
}

// ends is the span of a number, of all truths.
func ends(all []truth, of func(truth) int) api.Span {
	s := span(of(all[0]), of(all[0]))
	for _, x := range all {
		s = span(min(s.Lo, of(x)), max(s.Hi, of(x)))
	}
	return s
}

// canBe is whether the pence of an entry can be due.
func canBe(t api.Till, all []truth, x api.TillEntry) bool {
	switch x.Kind {
	case api.TillPrice:
		return x.Pence == t.Price
	case api.TillFine:
		return x.Pence == t.Fine && slices.ContainsFunc(all, func(y truth) bool { return y.isOut(x.Ticket) })
	default:
		return slices.ContainsFunc(all, func(y truth) bool { return y.back(t, x.Ticket) == x.Pence })
	}
}

// isOf is whether two entries are of the same ticket and kind.
func isOf(x, y api.TillEntry) bool { return x.Ticket == y.Ticket && x.Kind == y.Kind }

// fault is the first entry that breaks a rule, and the first rule that it does; the rule is 0 if the book is right.
func fault(t api.Till, all []truth, book []api.TillEntry) (n, rule int) {
	for n, x := range book {
		if slices.ContainsFunc(book[:n], func(y api.TillEntry) bool { return isOf(x, y) }) {
			return n, 1
		}
		if !canBe(t, all, x) {
			return n, 2
		}
	}
	return 0, 0
}

// missing is the three sets of tickets of which something is missing.
func missing(t api.Till, all []truth, book []api.TillEntry) (sets [3]int) {
	for n := range t.Tickets.Tickets {
		due := [3]bool{
			true,
			!slices.ContainsFunc(all, func(x truth) bool { return x.fine(t, n) == 0 }),
			!slices.ContainsFunc(all, func(x truth) bool { return x.back(t, n) == 0 }),
		}
		for k := range sets {
			isBooked := slices.ContainsFunc(book, func(x api.TillEntry) bool { return isOf(x, entry(n, k+1, 0)) })
			if due[k] && !isBooked {
				sets[k] |= 1 << n
			}
		}
	}
	return sets
}

// total is what a book comes to.
func total(book []api.TillEntry) (all int) {
	for _, x := range book {
		if x.Kind == api.TillBack {
			all -= x.Pence
		} else {
			all += x.Pence
		}
	}
	return all
}

// Random tills are the same ones each time.
func source(n uint64) *rand.Rand { return rand.New(rand.NewPCG(n, 13)) }

func from(r *rand.Rand, lo, hi int) int { return lo + r.IntN(hi-lo+1) }

// random is a till of random tickets, so many, of which many pass one another over, or wait just about so many whole ten minutes; nothing of them is later than the minute 220.
func random(r *rand.Rand, many int) api.Till {
	t := api.Till{Tickets: api.Tickets{Huts: from(r, 1, 4)}, Price: pick(r), Fine: pick(r), Wait: pick(r)}
	start, late, wide := r.IntN(40), 10, 7
	if r.IntN(2) == 0 {
		late, wide = 3, 3
	}
	next := make([]int, t.Tickets.Huts)
	for range many {
		hut := r.IntN(t.Tickets.Huts)
		// Each door of a hut is closed about half an hour after the one before it, or, now and then, about when that was.
		door := start + 4 + next[hut] + r.IntN(late)
		if r.IntN(8) > 0 {
			next[hut] += 30
		}
		bought := start + r.IntN(wide)
		t.Tickets.Tickets = append(t.Tickets.Tickets, one(bought, bought+r.IntN(3), hut, door, door+r.IntN(3)))
	}
	l := t.Tickets.Tickets
	r.Shuffle(many, func(i, j int) { l[i], l[j] = l[j], l[i] })
	return t
}

// pick is an amount, now and then one of the ends.
func pick(r *rand.Rand) int {
	switch r.IntN(8) {
	case 0:
		return 0
	case 1:
		return 100
	default:
		return r.IntN(20)
	}
}

// possible is a random till that has a truth, and all its truths.
func possible(r *rand.Rand, most int) (api.Till, []truth) {
	for {
		t := random(r, r.IntN(most+1))
		if all := truths(t.Tickets); len(all) > 0 {
			return t, all
		}
	}
}

// scrawl is a random book: the one of a truth, of which entries are left out, altered, or there again, in any order.
func scrawl(r *rand.Rand, t api.Till, x truth) []api.TillEntry {
	book := x.book(t, func() bool { return r.IntN(2) == 0 })
	r.Shuffle(len(book), func(i, j int) { book[i], book[j] = book[j], book[i] })
	book = slices.DeleteFunc(book, func(api.TillEntry) bool { return r.IntN(6) == 0 })
	for range r.IntN(3) {
		if len(book) == 0 {
			break
		}
		x := &book[r.IntN(len(book))]
		switch r.IntN(4) {
		case 0:
			x.Ticket = r.IntN(len(t.Tickets.Tickets))
		case 1:
			x.Pence = []int{0, t.Price, t.Fine, t.Wait, 2 * t.Wait, 3 * t.Wait, x.Pence + 1, x.Pence - 1}[r.IntN(8)]
		case 2:
			x.Kind = from(r, 1, 3)
		default:
			book = append(book, *x)
		}
	}
	return book
}
