package dip_test

import (
	"math/rand/v2"
	"slices"
	"testing"

	"dipworks/api"
	"dipworks/dip"
)

// change is what makes nothing worse. The dips are a copy, with at least one dipper and one bather.
type change struct {
	name string
	do   func(r *rand.Rand, d *api.Dips)
}

// anyOf is a random one of the elements.
func anyOf[T any](r *rand.Rand, list []T) *T { return &list[r.IntN(len(list))] }

func changes() []change {
	return []change{
		{"a dipper more", func(r *rand.Rand, d *api.Dips) {
			if len(d.Dippers) < 3 {
				more := api.Dipper{Hands: within(r, 0, 8, 3), Hours: hours(r, d.Hours)}
				d.Dippers = slices.Insert(d.Dippers, r.IntN(len(d.Dippers)+1), more)
			}
		}},
		{"more hands at least", func(r *rand.Rand, d *api.Dips) {
			x := anyOf(r, d.Dippers)
			x.Hands.Lo = from(r, x.Hands.Lo, x.Hands.Hi)
		}},
		{"more hands at most", func(r *rand.Rand, d *api.Dips) {
			x := anyOf(r, d.Dippers)
			x.Hands.Hi = from(r, x.Hands.Hi, 8)
		}},
		{"more hands", func(r *rand.Rand, d *api.Dips) {
			x := anyOf(r, d.Dippers)
			more := r.IntN(9 - x.Hands.Hi)
			x.Hands = span(x.Hands.Lo+more, x.Hands.Hi+more)
		}},
		{"more hours of a dipper", func(r *rand.Rand, d *api.Dips) { anyOf(r, d.Dippers).Hours |= r.IntN(1 << d.Hours) }},
		{"more hours of a bather", func(r *rand.Rand, d *api.Dips) { anyOf(r, d.Bathers).Hours |= r.IntN(1 << d.Hours) }},
		{"an hour more", func(r *rand.Rand, d *api.Dips) {
			if d.Hours < 4 {
				d.Hours++
				anyOf(r, d.Dippers).Hours |= 1 << (d.Hours - 1)
				anyOf(r, d.Bathers).Hours |= 1 << (d.Hours - 1)
			}
		}},
		{"fewer needs at most", func(r *rand.Rand, d *api.Dips) {
			x := anyOf(r, d.Bathers)
			x.Needs.Hi = from(r, x.Needs.Lo, x.Needs.Hi)
		}},
		{"fewer needs at least", func(r *rand.Rand, d *api.Dips) {
			x := anyOf(r, d.Bathers)
			x.Needs.Lo = from(r, 1, x.Needs.Lo)
		}},
		{"fewer needs", func(r *rand.Rand, d *api.Dips) {
			x := anyOf(r, d.Bathers)
			fewer := r.IntN(x.Needs.Lo)
			x.Needs = span(x.Needs.Lo-fewer, x.Needs.Hi-fewer)
		}},
	}
}

// canBeHelped are the sets of bathers who can be helped if there are just these.
func canBeHelped(d api.Dips) (sets []int) {
	for set := range 1 << len(d.Bathers) {
		if _, e := dip.Plan(just(d, set)); e == api.OK {
			sets = append(sets, set)
		}
	}
	return sets
}

// P9.10: who could be helped still can, by no more dippers.
func TestMore(t *testing.T) {
	better, fewer := map[string]int{}, map[string]int{}
	for seed := range uint64(2500) {
		r := source(40000 + seed)
		d := largeDips(r)
		if len(d.Dippers) == 0 || len(d.Bathers) == 0 {
			continue
		}
		before := canBeHelped(d)
		for _, c := range changes() {
			y := d
			y.Dippers, y.Bathers = slices.Clone(d.Dippers), slices.Clone(d.Bathers)
			c.do(r, &y)
			for _, set := range before {
				if _, e := dip.Plan(just(y, set)); e != api.OK {
					t.Error(seed, c.name, d, y, set, e)
				}
			}
			gained, saved := notWorse(t, d, y)
			if gained {
				better[c.name]++
			}
			if saved {
				fewer[c.name]++
			}
		}
	}
	for _, name := range []string{"a dipper more", "more hands at least", "more hands", "more hours of a dipper", "more hours of a bather", "an hour more", "fewer needs at most", "fewer needs"} {
		if better[name] < 20 || fewer[name] < 3 {
			t.Error("the dips test too little", name, better[name], fewer[name])
		}
	}
}

// notWorse fails if there is less hope, fewer bathers can be helped, or more dippers are needed; it returns whether more can be helped, and whether fewer dippers are needed.
func notWorse(t *testing.T, before, after api.Dips) (gained, saved bool) {
	t.Helper()
	hope, _ := dip.Hope(before)
	more, e := dip.Hope(after)
	if more < hope || e != api.OK {
		t.Error("Hope", before, after, hope, more, e)
	}
	many, _, _ := dip.Most(before)
	most, _, e := dip.Most(after)
	if most < many || e != api.OK {
		t.Error("Most", before, after, many, most, e)
	}
	few, e := dip.Fewest(before)
	if e == api.OK {
		fewest, e := dip.Fewest(after)
		if size(fewest) > size(few) || e != api.OK {
			t.Error("Fewest", before, after, few, fewest, e)
		}
		saved = size(fewest) < size(few)
	}
	return most > many, saved
}

// P9.10: a plan that is right stays right, also if it is in some truths only.
func TestRightPlansStayRight(t *testing.T) {
	righter := 0
	for seed := range uint64(2500) {
		r := source(50000 + seed)
		d := largeDips(r)
		if len(d.Dippers) == 0 || len(d.Bathers) == 0 {
			continue
		}
		plan := somePlan(r, d)
		before, _ := dip.Right(d, plan)
		for _, c := range changes()[1:] { // Without the dipper, who may change the numbers.
			y := d
			y.Dippers, y.Bathers = slices.Clone(d.Dippers), slices.Clone(d.Bathers)
			c.do(r, &y)
			after, e := dip.Right(y, plan)
			if after < before || e != api.OK {
				t.Error(seed, c.name, d, y, plan, before, after, e)
			}
			if after > before {
				righter++
			}
		}
	}
	if righter < 300 {
		t.Error("the plans test too little", righter)
	}
}

// P9.10: without a bather no fewer of the others can be helped.
func TestWithoutOneBather(t *testing.T) {
	others := 0
	for seed := range uint64(1000) {
		d := largeDips(source(60000 + seed))
		_, most, _ := dip.Most(d)
		hope, _ := dip.Hope(d)
		few, e := dip.Fewest(d)
		for n := range d.Bathers {
			y := just(d, (1<<len(d.Bathers)-1)&^(1<<n))
			many, _, f := dip.Most(y)
			if many < size(most&^(1<<n)) || f != api.OK {
				t.Error(seed, d, n, most, many, f)
			}
			if many == size(most) {
				others++
			}
			if more, _ := dip.Hope(y); more < hope {
				t.Error(seed, d, n, hope, more)
			}
			if fewest, f := dip.Fewest(y); e == api.OK && (f != api.OK || size(fewest) > size(few)) {
				t.Error(seed, d, n, few, fewest, f)
			}
		}
	}
	if others < 300 {
		t.Error("the dips test too little", others)
	}
}

// otherwise are the same dips, and the same plan, with other numbers of hours, dippers and bathers.
func otherwise(r *rand.Rand, d api.Dips, plan []api.DipPlace) (y api.Dips, same []api.DipPlace, hours []int) {
	y.Hours = d.Hours
	hours, them := r.Perm(d.Hours), make([]int, len(d.Dippers))
	renumbered := func(set int) (other int) {
		for _, hour := range elements(set) {
			other |= 1 << hours[hour]
		}
		return other
	}
	for after, before := range r.Perm(len(d.Dippers)) {
		x := d.Dippers[before]
		x.Hours, them[before] = renumbered(x.Hours), after
		y.Dippers = append(y.Dippers, x)
	}
	for _, before := range r.Perm(len(d.Bathers)) {
		x, place := d.Bathers[before], plan[before]
		x.Hours = renumbered(x.Hours)
		y.Bathers = append(y.Bathers, x)
		same = append(same, api.DipPlace{Hour: hours[place.Hour], Dipper: them[place.Dipper]})
	}
	return y, same, hours
}

// P9.10 and P11: by other numbers as many can be helped, by as few, and as much is right.
func TestNumberedOtherwise(t *testing.T) {
	var right [3]int
	for seed := range uint64(2500) {
		r := source(70000 + seed)
		d := largeDips(r)
		if len(d.Dippers) == 0 {
			continue
		}
		plan := somePlan(r, d)
		y, same, hours := otherwise(r, d, plan)
		n, _ := dip.Right(d, plan)
		checkRight(t, y, n, same)
		right[n]++
		for before, after := range hours {
			s, _ := dip.Hands(d, before)
			checkHands(t, y, after, s)
		}
		hope, _ := dip.Hope(d)
		checkHope(t, y, hope)
		_, e := dip.Plan(d)
		if _, f := dip.Plan(y); f != e {
			t.Error("Plan", seed, d, y, e, f)
		}
		few, _ := dip.Fewest(d)
		if fewest, f := dip.Fewest(y); f != e || size(fewest) != size(few) {
			t.Error("Fewest", seed, d, y, few, fewest, f)
		}
		many, _, _ := dip.Most(d)
		if most, _, f := dip.Most(y); f != api.OK || most != many {
			t.Error("Most", seed, d, y, many, most, f)
		}
		why, g := dip.Why(d)
		if n, f := dip.Why(y); f != g || size(n) != size(why) {
			t.Error("Why", seed, d, y, why, n, f)
		}
	}
	if slices.Min(right[:]) < 100 {
		t.Error("the dips do not test all cases", right)
	}
}

// P1 and P11: the same call tells the same, whatever is called at the same time.
func TestSameCallSameResult(t *testing.T) {
	done := make(chan [6]int)
	for range 8 {
		go func() {
			plan, _ := dip.Plan(dipsD())
			hope, _ := dip.Hope(dipsE())
			few, _ := dip.Fewest(dipsD())
			many, bathers, _ := dip.Most(dipsE())
			why, _ := dip.Why(dipsE())
			done <- [6]int{plan[2].Hour, hope, few, many, bathers, why}
		}()
	}
	for range 8 {
		if x := <-done; x != [6]int{1, 1, 3, 2, 3, 4} {
			t.Error(x)
		}
	}
}
