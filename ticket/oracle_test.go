package ticket_test

import (
	"math/bits"
	"math/rand/v2"
	"slices"

	"dipworks/api"
)

// What the chapter says, written out for one truth after the other.

// truth is one truth: when each ticket was bought, and when each door was closed.
type truth struct{ bought, door []int }

// truths are all truths of tickets: all minutes of all spans, of which those are left that can be so.
func truths(t api.Tickets) (list []truth) {
	all := []truth{{}}
	for _, x := range t.Tickets {
		var longer []truth
		for _, y := range all {
			for b := x.Bought.Lo; b <= x.Bought.Hi; b++ {
				for d := x.Door.Lo; d <= x.Door.Hi; d++ {
					longer = append(longer, truth{append(slices.Clone(y.bought), b), append(slices.Clone(y.door), d)})
				}
			}
		}
		all = longer
	}
	for _, x := range all {
		if canBe(t, x) {
			list = append(list, x)
		}
	}
	return list
}

func canBe(t api.Tickets, x truth) bool {
	for a := range t.Tickets {
		if x.door[a] < x.bought[a] {
			return false
		}
		for b := range a {
			if t.Tickets[a].Hut == t.Tickets[b].Hut && x.door[a]-x.door[b] < 30 && x.door[b]-x.door[a] < 30 {
				return false
			}
		}
	}
	return true
}

func before(x truth, a, b int) bool {
	return x.bought[a] < x.bought[b] || x.bought[a] == x.bought[b] && a < b
}

func passes(x truth, a, b int) bool {
	return a != b && before(x, b, a) && x.door[b] > x.door[a]
}

// passed is the set of those whom a ticket passes over.
func passed(x truth, a int) (set int) {
	for b := range x.door {
		if passes(x, a, b) {
			set |= 1 << b
		}
	}
	return set
}

// turns are those whose turn it is at a minute, by the words of the chapter.
func turns(x truth, minute int) (list []int) {
	var waiting []int
	for a := range x.door {
		if x.bought[a] <= minute && minute <= x.door[a] {
			waiting = append(waiting, a)
		}
	}
	for _, a := range waiting {
		if !slices.ContainsFunc(waiting, func(b int) bool { return b != a && !before(x, a, b) }) {
			list = append(list, a)
		}
	}
	return list
}

func free(t api.Tickets, x truth, hut, minute int) bool {
	for a, y := range t.Tickets {
		if y.Hut == hut && x.door[a] <= minute && minute <= x.door[a]+29 {
			return false
		}
	}
	return true
}

func longest(x truth) int {
	n := 0
	for a := range x.door {
		n = max(n, x.door[a]-x.bought[a])
	}
	return n
}

// busiest counts huts at all minutes.
func busiest(t api.Tickets, x truth) int {
	most := 0
	for minute := range api.TicketMinutes + 1 {
		n := 0
		for hut := range t.Huts {
			if !free(t, x, hut, minute) {
				n++
			}
		}
		most = max(most, n)
	}
	return most
}

func wrong(x truth) int {
	n := 0
	for a := range x.door {
		if passed(x, a) != 0 {
			n++
		}
	}
	return n
}

// how is whether something is so in each of so many truths, in some or in none.
func how(so, all int) int {
	switch so {
	case all:
		return 2
	case 0:
		return 0
	}
	return 1
}

// count is in how many truths something is so.
func count(all []truth, so func(truth) bool) int {
	n := 0
	for _, x := range all {
		if so(x) {
			n++
		}
	}
	return n
}

// ends is the span of a number, of all truths.
func ends(all []truth, of func(truth) int) api.Span {
	s := span(of(all[0]), of(all[0]))
	for _, x := range all {
		s = span(min(s.Lo, of(x)), max(s.Hi, of(x)))
	}
	return s
}

// clash is the fewest tickets, and of several the least number, that have no truth.
func clash(t api.Tickets) int {
	best := -1
	for set := range 1 << len(t.Tickets) {
		rest := api.Tickets{Huts: t.Huts}
		for i, x := range t.Tickets {
			if set>>i&1 == 1 {
				rest.Tickets = append(rest.Tickets, x)
			}
		}
		fewer := best < 0 || bits.OnesCount(uint(set)) < bits.OnesCount(uint(best))
		if fewer && len(truths(rest)) == 0 {
			best = set
		}
	}
	return best
}

// known is tickets of which all is known: they are as in a truth.
func known(t api.Tickets, x truth) api.Tickets {
	y := api.Tickets{Huts: t.Huts}
	for i, z := range t.Tickets {
		y.Tickets = append(y.Tickets, one(x.bought[i], x.bought[i], z.Hut, x.door[i], x.door[i]))
	}
	return y
}

// Random tickets are the same ones each time.
func source(n uint64) *rand.Rand { return rand.New(rand.NewPCG(n, 3)) }

func from(r *rand.Rand, lo, hi int) int { return lo + r.IntN(hi-lo+1) }

// some is random tickets, so many, of which many meet or pass one another over; nothing of them is later than the minute 220.
func some(r *rand.Rand, many int) api.Tickets {
	t := api.Tickets{Huts: from(r, 1, api.TicketHuts)}
	start := r.IntN(60)
	next := make([]int, t.Huts)
	for range many {
		hut := r.IntN(t.Huts)
		// Each door of a hut is closed about half an hour after the one before it, or, now and then, about when that was.
		door := start + 2 + next[hut] + r.IntN(4)
		if r.IntN(8) > 0 {
			next[hut] += 30
		}
		bought := start + r.IntN(7)
		t.Tickets = append(t.Tickets, one(bought, bought+r.IntN(3), hut, door, door+r.IntN(3)))
	}
	r.Shuffle(many, func(i, j int) { t.Tickets[i], t.Tickets[j] = t.Tickets[j], t.Tickets[i] })
	return t
}

// possible is random tickets that have a truth, and all their truths.
func possible(r *rand.Rand, most int) (api.Tickets, []truth) {
	for {
		t := some(r, r.IntN(most+1))
		if all := truths(t); len(all) > 0 {
			return t, all
		}
	}
}
