package horse_test

import (
	"math/bits"
	"math/rand/v2"
	"slices"
	"testing"

	"dipworks/api"
	"dipworks/horse"
)

var both = [2]bool{true, false}

// P2.1, P2.2, P2.5 and P2.6, by the words of the chapter, of random horses, minutes and plans.
func TestAgainstAllTruths(t *testing.T) {
	for seed := range uint64(150) {
		r := source(seed)
		h := some(r, r.IntN(6))
		moves := len(h.Moves)
		for a := range moves {
			for b := range moves {
				if n, e := horse.Follows(h, a, b); n != follows(h, a, b) || e != api.OK {
					t.Error(seed, "Follows", a, b, n, e)
				}
			}
		}
		for range 20 {
			p := anyPlan(r, moves, from(r, 1, api.HorseMoves))
			checkPlan(t, h, p)
			if l, e := horse.Late(h, p); !slices.Equal(l, late(h, p)) || e != api.OK {
				t.Error(seed, "Late", h, p, l, e)
			}
		}
		for minute := range 24 {
			if s, e := horse.Busy(h, minute); s != busy(h, minute) || e != api.OK {
				t.Error(seed, "Busy", h, minute, s, e)
			}
		}
	}
}

func checkPlan(t *testing.T, h api.Horses, p []int) {
	for _, sure := range both {
		a, b, e := horse.Check(h, p, sure)
		if x, y, f := wrong(h, p, sure); a != x || b != y || e != f {
			t.Error("Check", h, p, sure, a, b, e)
		}
	}
}

// P2.1, P2.2 and P2.5 of horses within all that is valid; here a truth in between is a random one.
func TestFarHorses(t *testing.T) {
	for seed := range uint64(400) {
		r := source(1000 + seed)
		h := far(r, from(r, 1, api.HorseMoves))
		a, b := r.IntN(len(h.Moves)), r.IntN(len(h.Moves))
		if n, e := horse.Follows(h, a, b); n != follows(h, a, b) || e != api.OK {
			t.Error(seed, "Follows", h, a, b, n, e)
		}
		p := anyPlan(r, len(h.Moves), from(r, 1, 3))
		checkPlan(t, h, p)
		l, _ := horse.Late(h, p)
		for _, x := range [][]int{fast(h), slow(h), between(r, h)} {
			for i, n := range lateIn(h, p, x) {
				if n < l[i].Lo || n > l[i].Hi {
					t.Error(seed, "Late", h, p, x, i, n, l[i])
				}
			}
		}
		for i := range l {
			if l[i].Lo != lateIn(h, p, fast(h))[i] || l[i].Hi != lateIn(h, p, slow(h))[i] {
				t.Error(seed, "both ends of Late are those of a truth", h, p, i, l[i])
			}
		}
		minute := r.IntN(221)
		if s, e := horse.Busy(h, minute); s != span(busyIn(h, minute, fast(h)), busyIn(h, minute, slow(h))) || e != api.OK {
			t.Error(seed, "Busy", h, minute, s, e)
		}
	}
}

// fast, slow and between are three truths: the fastest, the slowest, and any one.
func fast(h api.Horses) (list []int) {
	for _, m := range h.Moves {
		list = append(list, m.Long.Lo)
	}
	return list
}

func slow(h api.Horses) (list []int) {
	for _, m := range h.Moves {
		list = append(list, m.Long.Hi)
	}
	return list
}

func between(r *rand.Rand, h api.Horses) (list []int) {
	for _, m := range h.Moves {
		list = append(list, from(r, m.Long.Lo, m.Long.Hi))
	}
	return list
}

// P2.3, P2.4 and P2.7 against all plans and all sets of moves.
func TestAgainstAllPlans(t *testing.T) {
	for seed := range uint64(160) {
		r := source(2000 + seed)
		h := some(r, from(r, 0, 5))
		for _, sure := range both {
			checkFewest(t, h, sure)
			for many := range api.HorseMoves + 1 {
				if n, e := horse.Leave(h, many, sure); n != leave(h, many, sure) || e != api.OK {
					t.Error("Leave", h, many, sure, n, e)
				}
			}
		}
	}
}

// The same of as many moves as there may be.
func TestAgainstAllPlansOfManyMoves(t *testing.T) {
	for seed := range uint64(40) {
		r := source(3000 + seed)
		h := some(r, 6)
		if seed%8 == 0 {
			h = some(r, api.HorseMoves)
		}
		checkFewest(t, h, seed%16 < 8)
	}
}

func checkFewest(t *testing.T, h api.Horses, sure bool) {
	many, p := fewest(h, sure)
	if n, l, e := horse.Fewest(h, sure); n != many || !slices.Equal(l, p) || e != api.OK {
		t.Error("Fewest", h, sure, n, l, e, "not", many, p)
	}
	if n, e := horse.Proof(h, sure); n != proof(h, sure) || e != api.OK {
		t.Error("Proof", h, sure, n, e)
	}
}

// P2.9: by a plan that is surely right no move begins late, in any truth, and by one that perhaps is none does in the fastest one.
func TestByRightPlansNothingIsLate(t *testing.T) {
	right := 0
	for seed := range uint64(600) {
		r := source(4000 + seed)
		h := some(r, from(r, 1, api.HorseMoves))
		p := anyPlan(r, len(h.Moves), api.HorseMoves)
		if seed%2 == 0 {
			_, p, _ = horse.Fewest(h, seed%4 == 0)
		}
		l, _ := horse.Late(h, p)
		for _, sure := range both {
			if _, _, e := horse.Check(h, p, sure); e != api.ErrNone {
				continue
			}
			right++
			for i, s := range l {
				if s.Lo != 0 || sure && s.Hi != 0 {
					t.Error(seed, h, p, sure, i, s)
				}
			}
		}
	}
	if right < 300 {
		t.Error("too few plans are right", right)
	}
}

// P2.9 and P9: no fewer horses than are told can do all moves in any truth, and so many can in the fastest one, or by sure in the slowest one.
func TestFewestOfEachTruth(t *testing.T) {
	for seed := range uint64(100) {
		r := source(5000 + seed)
		h := some(r, from(r, 1, 5))
		least, _, _ := horse.Fewest(h, false)
		most, _, _ := horse.Fewest(h, true)
		var all []int
		for _, x := range truths(h) {
			n, _, e := horse.Fewest(inTruth(h, x), seed%2 == 0)
			if e != api.OK {
				t.Error(seed, e)
			}
			all = append(all, n)
		}
		if slices.Min(all) != least || slices.Max(all) != most || all[0] != least || all[len(all)-1] != most {
			t.Error(seed, h, least, most, all)
		}
	}
}

// P2.4 and P2.9: as many moves as are told horses are such that no two are one horse's.
func TestProofIsOne(t *testing.T) {
	for seed := range uint64(500) {
		r := source(6000 + seed)
		h := some(r, from(r, 0, api.HorseMoves))
		for _, sure := range both {
			many, p, _ := horse.Fewest(h, sure)
			set, _ := horse.Proof(h, sure)
			if bits.OnesCount(uint(set)) != many || set >= 1<<len(h.Moves) || !allApart(h, set, sure) {
				t.Error(seed, h, sure, many, set)
			}
			if a, b, e := horse.Check(h, p, sure); e != api.ErrNone || different(p) != many {
				t.Error(seed, h, sure, many, p, a, b, e)
			}
		}
	}
}

// P2.9: by sure no fewer horses are needed, and no fewer moves left out, than without it.
func TestSureNeedsNoFewer(t *testing.T) {
	more := 0
	for seed := range uint64(300) {
		r := source(7000 + seed)
		h := some(r, from(r, 0, api.HorseMoves))
		a, _, _ := horse.Fewest(h, true)
		b, _, _ := horse.Fewest(h, false)
		if a < b {
			t.Error(seed, h, a, b)
		}
		if a > b {
			more++
		}
		for many := range api.HorseMoves + 1 {
			x, _ := horse.Leave(h, many, true)
			y, _ := horse.Leave(h, many, false)
			if bits.OnesCount(uint(x)) < bits.OnesCount(uint(y)) {
				t.Error(seed, h, many, x, y)
			}
			if (x == 0) != (many >= a) || (y == 0) != (many >= b) {
				t.Error(seed, h, "nothing is left out just if there are horses enough", many, x, y)
			}
		}
	}
	if more < 50 {
		t.Error("too few horses are needed surely", more)
	}
}

// P2.9: with a move more no fewer horses are needed, and at most one more.
func TestOneMoveMore(t *testing.T) {
	for seed := range uint64(300) {
		r := source(8000 + seed)
		h := some(r, from(r, 1, api.HorseMoves))
		i := r.IntN(len(h.Moves))
		fewer := without(h, 1<<i)
		for _, sure := range both {
			a, _, _ := horse.Fewest(fewer, sure)
			b, _, _ := horse.Fewest(h, sure)
			if b < a || b > a+1 {
				t.Error(seed, h, i, sure, a, b)
			}
		}
	}
}

// P2.9 and P11: if moves are numbered otherwise as many horses are needed, as many moves left out, and as many are under way.
func TestNumberedOtherwise(t *testing.T) {
	for seed := range uint64(300) {
		r := source(9000 + seed)
		h := some(r, from(r, 1, api.HorseMoves))
		x := api.Horses{Pace: h.Pace}
		for _, i := range r.Perm(len(h.Moves)) {
			x.Moves = append(x.Moves, h.Moves[i])
		}
		for _, sure := range both {
			a, _, _ := horse.Fewest(h, sure)
			b, _, _ := horse.Fewest(x, sure)
			if a != b {
				t.Error(seed, "Fewest", h, sure, a, b)
			}
			m, _ := horse.Leave(h, 2, sure)
			n, _ := horse.Leave(x, 2, sure)
			if bits.OnesCount(uint(m)) != bits.OnesCount(uint(n)) {
				t.Error(seed, "Leave", h, sure, m, n)
			}
		}
		s, _ := horse.Busy(h, 5)
		if u, _ := horse.Busy(x, 5); s != u {
			t.Error(seed, "Busy", h, s, u)
		}
	}
}
