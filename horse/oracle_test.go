package horse_test

import (
	"math/bits"
	"math/rand/v2"
	"slices"

	"dipworks/api"
)

// What the chapter says, written out for one truth after the other. A truth is how many minutes each move takes.

// truths are all truths of horses.
func truths(h api.Horses) [][]int {
	all := [][]int{{}}
	for _, m := range h.Moves {
		var longer [][]int
		for _, x := range all {
			for n := m.Long.Lo; n <= m.Long.Hi; n++ {
				longer = append(longer, append(slices.Clone(x), n))
			}
		}
		all = longer
	}
	return all
}

// walk is how many minutes it takes from a move to another one.
func walk(h api.Horses, a, b int) int {
	d := h.Moves[a].Place - h.Moves[b].Place
	if d < 0 {
		d = -d
	}
	return h.Pace * d
}

// canIn is whether the move b can follow the move a that takes so many minutes.
func canIn(h api.Horses, a, b, minutes int) bool {
	return h.Moves[b].At >= h.Moves[a].At+minutes+walk(h, a, b)
}

// follows is P2.1: in how many numbers of minutes of the first move the second one can follow it.
func follows(h api.Horses, a, b int) int {
	can, all := 0, 0
	for n := h.Moves[a].Long.Lo; n <= h.Moves[a].Long.Hi; n++ {
		all++
		if canIn(h, a, b, n) {
			can++
		}
	}
	switch can {
	case all:
		return api.HorseAlways
	case 0:
		return api.HorseNever
	}
	return api.HorsePerhaps
}

// linked is whether of two moves one can follow the other one.
func linked(h api.Horses, a, b int, sure bool) bool {
	least := api.HorsePerhaps
	if sure {
		least = api.HorseAlways
	}
	return follows(h, a, b) >= least || follows(h, b, a) >= least
}

// wrong is P2.2.
func wrong(h api.Horses, plan []int, sure bool) (a, b int, e api.Errno) {
	for a := range plan {
		for b := a + 1; b < len(plan); b++ {
			if plan[a] == plan[b] && !linked(h, a, b, sure) {
				return a, b, api.OK
			}
		}
	}
	return 0, 0, api.ErrNone
}

// different is how many different numbers a list has.
func different(list []int) int {
	set := 0
	for _, n := range list {
		set |= 1 << n
	}
	return bits.OnesCount(uint(set))
}

// eachPlan calls f with each plan of so many moves and horses, in order.
func eachPlan(moves, horses int, f func(plan []int)) {
	plan := make([]int, moves)
	for {
		f(plan)
		i := moves - 1
		for ; i >= 0 && plan[i] == horses-1; i-- {
			plan[i] = 0
		}
		if i < 0 {
			return
		}
		plan[i]++
	}
}

// fewest is P2.3, of all plans that there are.
func fewest(h api.Horses, sure bool) (many int, plan []int) {
	apart := make([]int, len(h.Moves))
	for a := range h.Moves {
		for b := range h.Moves {
			if a != b && !linked(h, a, b, sure) {
				apart[a] |= 1 << b
			}
		}
	}
	many = len(h.Moves) + 1
	// With as many horses as moves there always is a right plan, and no number beyond them comes first.
	eachPlan(len(h.Moves), max(1, len(h.Moves)), func(p []int) {
		if n := different(p); n < many && rightPlan(p, apart) {
			many, plan = n, slices.Clone(p)
		}
	})
	return many, plan
}

// rightPlan is whether no horse has two moves that are apart.
func rightPlan(plan, apart []int) bool {
	var does [api.HorseMoves]int
	for move, horse := range plan {
		if does[horse]&apart[move] != 0 {
			return false
		}
		does[horse] |= 1 << move
	}
	return true
}

// proof is P2.4.
func proof(h api.Horses, sure bool) int {
	found := 0
	for set := range 1 << len(h.Moves) {
		if bits.OnesCount(uint(set)) > bits.OnesCount(uint(found)) && allApart(h, set, sure) {
			found = set
		}
	}
	return found
}

// allApart is whether no one of a set of moves can follow another one.
func allApart(h api.Horses, set int, sure bool) bool {
	for a := range h.Moves {
		for b := range a {
			if set>>a&1 == 1 && set>>b&1 == 1 && linked(h, a, b, sure) {
				return false
			}
		}
	}
	return true
}

// leave is P2.7, by the fewest horses of all plans.
func leave(h api.Horses, many int, sure bool) int {
	found := 1<<len(h.Moves) - 1
	for set := range 1 << len(h.Moves) {
		if bits.OnesCount(uint(set)) >= bits.OnesCount(uint(found)) {
			continue
		}
		if n, _ := fewest(without(h, set), sure); n <= many {
			found = set
		}
	}
	return found
}

// without is horses without a set of moves.
func without(h api.Horses, set int) api.Horses {
	rest := api.Horses{Pace: h.Pace}
	for i, m := range h.Moves {
		if set>>i&1 == 0 {
			rest.Moves = append(rest.Moves, m)
		}
	}
	return rest
}

// lateIn is how late each move begins in a truth: each horse looks for the next of its moves, and does it.
func lateIn(h api.Horses, plan, minutes []int) []int {
	late := make([]int, len(plan))
	for horse := range api.HorseMoves {
		var rest []int
		for move := range plan {
			if plan[move] == horse {
				rest = append(rest, move)
			}
		}
		before, free := -1, 0
		for len(rest) > 0 {
			next := 0
			for i, move := range rest {
				if h.Moves[move].At < h.Moves[rest[next]].At {
					next = i
				}
			}
			move := rest[next]
			rest = slices.Delete(rest, next, next+1)
			begins := h.Moves[move].At
			if before >= 0 && free+walk(h, before, move) > begins {
				begins = free + walk(h, before, move)
			}
			late[move] = begins - h.Moves[move].At
			before, free = move, begins+minutes[move]
		}
	}
	return late
}

// late is P2.5, of all truths.
func late(h api.Horses, plan []int) []api.Span {
	list := make([]api.Span, len(plan))
	for n, x := range truths(h) {
		for i, l := range lateIn(h, plan, x) {
			if n == 0 {
				list[i] = span(l, l)
			}
			list[i] = span(min(list[i].Lo, l), max(list[i].Hi, l))
		}
	}
	return list
}

// busyIn is how many moves are under way in a truth.
func busyIn(h api.Horses, minute int, minutes []int) int {
	n := 0
	for i, m := range h.Moves {
		if m.At <= minute && minute < m.At+minutes[i] {
			n++
		}
	}
	return n
}

// busy is P2.6, of all truths.
func busy(h api.Horses, minute int) api.Span {
	s := span(len(h.Moves), 0)
	for _, x := range truths(h) {
		n := busyIn(h, minute, x)
		s = span(min(s.Lo, n), max(s.Hi, n))
	}
	return s
}

// inTruth is horses of which all is known: moves take as long as in a truth.
func inTruth(h api.Horses, minutes []int) api.Horses {
	x := api.Horses{Pace: h.Pace, Moves: slices.Clone(h.Moves)}
	for i, n := range minutes {
		x.Moves[i].Long = span(n, n)
	}
	return x
}

// Random horses are the same ones each time.
func source(n uint64) *rand.Rand { return rand.New(rand.NewPCG(n, 2)) }

func from(r *rand.Rand, lo, hi int) int { return lo + r.IntN(hi-lo+1) }

// some is random horses with so many moves, close enough to one another that some can follow some others, surely or perhaps.
func some(r *rand.Rand, moves int) api.Horses {
	h := api.Horses{Pace: r.IntN(api.HorsePace + 1)}
	last := from(r, 0, 14)
	for range moves {
		lo := from(r, 1, 4)
		h.Moves = append(h.Moves, move(r.IntN(last+1), r.IntN(4), lo, lo+r.IntN(3)))
	}
	return h
}

// far is random horses within all that is valid.
func far(r *rand.Rand, moves int) api.Horses {
	h := api.Horses{Pace: r.IntN(api.HorsePace + 1)}
	for range moves {
		lo := from(r, 1, api.HorseLong)
		h.Moves = append(h.Moves, move(r.IntN(api.HorseAt+1), r.IntN(api.HorsePlace+1), lo, from(r, lo, api.HorseLong)))
	}
	return h
}

// anyPlan is a random plan of so many moves and horses.
func anyPlan(r *rand.Rand, moves, horses int) []int {
	plan := make([]int, moves)
	for i := range plan {
		plan[i] = r.IntN(horses)
	}
	return plan
}
