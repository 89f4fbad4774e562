package dip_test

import (
	"iter"
	"math/bits"
	"math/rand/v2"
	"slices"

	"dipworks/api"
)

// What the chapter says, written out for one truth, and one plan, after the other.

// truth is how many hands each dipper has, and how many each bather needs.
type truth struct{ hands, needs []int }

// inOrder are all lists of which each number is within the span of its place, in their order: the same list each time, which changes.
func inOrder(spans []api.Span) iter.Seq[[]int] {
	return func(yield func([]int) bool) {
		var list []int
		for _, s := range spans {
			list = append(list, s.Lo)
		}
		for yield(list) {
			n := len(list) - 1
			for ; n >= 0 && list[n] == spans[n].Hi; n-- {
				list[n] = spans[n].Lo
			}
			if n < 0 {
				return
			}
			list[n]++
		}
	}
}

func truths(d api.Dips) (all []truth) {
	var spans []api.Span
	for _, x := range d.Dippers {
		spans = append(spans, x.Hands)
	}
	for _, x := range d.Bathers {
		spans = append(spans, x.Needs)
	}
	for list := range inOrder(spans) {
		list = slices.Clone(list)
		all = append(all, truth{list[:len(d.Dippers)], list[len(d.Dippers):]})
	}
	return all
}

// plans are all plans, right or not, in their order.
func plans(d api.Dips) (all [][]api.DipPlace) {
	if len(d.Dippers) == 0 && len(d.Bathers) > 0 {
		return nil
	}
	places := d.Hours * len(d.Dippers)
	for list := range inOrder(slices.Repeat([]api.Span{span(0, places-1)}, len(d.Bathers))) {
		var plan []api.DipPlace
		for _, n := range list {
			plan = append(plan, api.DipPlace{Hour: n / len(d.Dippers), Dipper: n % len(d.Dippers)})
		}
		all = append(all, plan)
	}
	return all
}

// breaks returns whether a bather breaks a rule.
func (x truth) breaks(d api.Dips, plan []api.DipPlace, bather, rule int) bool {
	place, needed := plan[bather], 0
	if rule == 1 {
		return d.Bathers[bather].Hours>>place.Hour&1 == 0 || d.Dippers[place.Dipper].Hours>>place.Hour&1 == 0
	}
	for n := 0; n <= bather; n++ {
		if plan[n] == place {
			needed += x.needs[n]
		}
	}
	return needed > x.hands[place.Dipper]
}

func (x truth) right(d api.Dips, plan []api.DipPlace) bool {
	for bather := range plan {
		if x.breaks(d, plan, bather, 1) || x.breaks(d, plan, bather, 2) {
			return false
		}
	}
	return true
}

// wrong is the first bather who breaks a rule in some truth, and the first rule that this one does; the rule is 0 if nobody does.
func wrong(d api.Dips, all []truth, plan []api.DipPlace) (bather, rule int) {
	for bather = range plan {
		for rule = 1; rule <= 2; rule++ {
			if slices.ContainsFunc(all, func(x truth) bool { return x.breaks(d, plan, bather, rule) }) {
				return bather, rule
			}
		}
	}
	return 0, 0
}

// how is in how many truths the plan is right: in none, in some, or in each.
func how(d api.Dips, all []truth, plan []api.DipPlace) int {
	many := 0
	for _, x := range all {
		if x.right(d, plan) {
			many++
		}
	}
	switch many {
	case 0:
		return 0
	case len(all):
		return 2
	}
	return 1
}

// sure are the plans that are surely right, in their order.
func sure(d api.Dips) (list [][]api.DipPlace) {
	all := truths(d)
	for _, plan := range plans(d) {
		if !slices.ContainsFunc(all, func(x truth) bool { return !x.right(d, plan) }) {
			list = append(list, plan)
		}
	}
	return list
}

// some returns whether some plan is right in some truth.
func some(d api.Dips) bool {
	all := truths(d)
	return slices.ContainsFunc(plans(d), func(plan []api.DipPlace) bool {
		return slices.ContainsFunc(all, func(x truth) bool { return x.right(d, plan) })
	})
}

// helping are the dippers of a plan.
func helping(plan []api.DipPlace) (set int) {
	for _, place := range plan {
		set |= 1 << place.Dipper
	}
	return set
}

// just is the same with some of the bathers alone.
func just(d api.Dips, bathers int) api.Dips {
	var list []api.DipBather
	for n, b := range d.Bathers {
		if bathers>>n&1 == 1 {
			list = append(list, b)
		}
	}
	d.Bathers = list
	return d
}

func size(set int) int { return bits.OnesCount(uint(set)) }

// chosen is the best one of the sets of so many that suit, of several the least number; and whether there is one.
func chosen(many int, suits func(int) bool, better func(size, than int) bool) (best int, is bool) {
	for set := range 1 << many {
		if suits(set) && (!is || better(size(set), size(best))) {
			best, is = set, true
		}
	}
	return best, is
}

func fewer(size, than int) bool { return size < than }
func more(size, than int) bool  { return size > than }

// Random dips are the same ones each time.
func source(n uint64) *rand.Rand { return rand.New(rand.NewPCG(n, 9)) }

func from(r *rand.Rand, lo, hi int) int { return lo + r.IntN(hi-lo+1) }

// within is a random span that is not wider than told.
func within(r *rand.Rand, lo, hi, wide int) api.Span {
	s := span(from(r, lo, hi), 0)
	s.Hi = from(r, s.Lo, min(hi, s.Lo+wide))
	return s
}

// hours are random ones, more often many than few.
func hours(r *rand.Rand, many int) int {
	all := 1<<many - 1
	if r.IntN(3) == 0 {
		return r.IntN(all + 1)
	}
	return r.IntN(all+1) | r.IntN(all+1)
}

// someDips are random dips, with so many dippers and bathers at most.
func someDips(r *rand.Rand, most, dippers, bathers, wide int) api.Dips {
	d := api.Dips{Hours: from(r, 1, most)}
	hands, needs := from(r, 2, 8), from(r, 1, 4)
	for range max(r.IntN(dippers+1), r.IntN(dippers+1)) {
		d.Dippers = append(d.Dippers, api.Dipper{Hands: within(r, r.IntN(2), hands, r.IntN(wide+1)), Hours: hours(r, d.Hours)})
	}
	for range max(r.IntN(bathers+1), r.IntN(bathers+1)) {
		d.Bathers = append(d.Bathers, api.DipBather{Needs: within(r, 1, needs, r.IntN(wide+1)), Hours: hours(r, d.Hours)})
	}
	return d
}

// smallDips have few truths and few plans; largeDips have as many as there may be.
func smallDips(r *rand.Rand) api.Dips {
	if r.IntN(2) == 0 {
		return someDips(r, 4, 2, 3, 2)
	}
	return someDips(r, 2, 3, 4, 1)
}

func largeDips(r *rand.Rand) api.Dips { return someDips(r, 4, 3, 5, 3) }

// somePlan is a random plan, right or not; in most places the bather can go in and the dipper is there.
func somePlan(r *rand.Rand, d api.Dips) (plan []api.DipPlace) {
	for _, b := range d.Bathers {
		var good, all []api.DipPlace
		for hour := range d.Hours {
			for n, x := range d.Dippers {
				place := api.DipPlace{Hour: hour, Dipper: n}
				all = append(all, place)
				if b.Hours&x.Hours>>hour&1 == 1 {
					good = append(good, place)
				}
			}
		}
		if len(good) > 0 && r.IntN(8) > 0 {
			all = good
		}
		plan = append(plan, all[r.IntN(len(all))])
	}
	return plan
}
