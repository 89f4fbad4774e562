package dip_test

import (
	"math/rand/v2"
	"slices"
	"testing"

	"dipworks/api"
	"dipworks/dip"
)

// seen counts what random dips test.
type seen struct{ hope, right, rule, fewest, most, why [6]int }

// P9.1 to P9.8, of many small dips, against all truths and all plans.
func TestAgainstAllTruths(t *testing.T) {
	var n seen
	for seed := range uint64(1500) {
		r := source(seed)
		d := smallDips(r)
		all := truths(d)
		checkHandsOf(t, d, all)
		if len(d.Bathers) == 0 || len(d.Dippers) > 0 {
			for range 10 {
				checkSomePlan(t, d, all, somePlan(r, d), &n)
			}
		}
		checkChosen(t, d, &n)
	}
	for what, counts := range map[string][]int{"hope": n.hope[:3], "right": n.right[:3], "rule": n.rule[:3], "fewest": n.fewest[:3], "most": n.most[:5], "why": n.why[1:4]} {
		if slices.Min(counts) < 10 {
			t.Error("the dips do not test all cases", what, counts)
		}
	}
}

// checkHandsOf looks at Hands, of each hour.
func checkHandsOf(t *testing.T, d api.Dips, all []truth) {
	t.Helper()
	for hour := range d.Hours {
		var sums []int
		for _, x := range all {
			many := 0
			for n, h := range x.hands {
				many += h * (d.Dippers[n].Hours >> hour & 1)
			}
			sums = append(sums, many)
		}
		checkHands(t, d, hour, span(slices.Min(sums), slices.Max(sums)))
	}
}

// checkSomePlan looks at Check and Right.
func checkSomePlan(t *testing.T, d api.Dips, all []truth, plan []api.DipPlace, n *seen) {
	t.Helper()
	bather, rule := wrong(d, all, plan)
	right, e := how(d, all, plan), api.OK
	if rule == 0 {
		e = api.ErrNone
	}
	n.rule[rule]++
	n.right[right]++
	checkCheck(t, d, bather, rule, e, plan)
	checkRight(t, d, right, plan)
}

// checkChosen looks at Plan, Hope, Fewest, Most and Why.
func checkChosen(t *testing.T, d api.Dips, n *seen) {
	t.Helper()
	right := sure(d)
	bathers := 1 << len(d.Bathers)
	helped := make([]bool, bathers)
	for set := range bathers {
		helped[set] = len(sure(just(d, set))) > 0
	}
	most, _ := chosen(len(d.Bathers), func(set int) bool { return helped[set] }, more)
	n.most[size(most)]++
	checkMost(t, d, elements(most)...)
	if len(right) == 0 {
		why, _ := chosen(len(d.Bathers), func(set int) bool { return !helped[set] }, fewer)
		n.why[size(why)]++
		checkPlan(t, d, api.ErrNone, nil)
		checkFewest(t, d, api.ErrNone)
		checkWhy(t, d, api.OK, elements(why)...)
		hope := 0
		if some(d) {
			hope = 1
		}
		n.hope[hope]++
		checkHope(t, d, hope)
		return
	}
	few, _ := chosen(len(d.Dippers), func(set int) bool {
		return slices.ContainsFunc(right, func(plan []api.DipPlace) bool { return helping(plan)&^set == 0 })
	}, fewer)
	n.fewest[size(few)]++
	n.hope[2]++
	checkPlan(t, d, api.OK, right[0])
	checkHope(t, d, 2)
	checkFewest(t, d, api.OK, elements(few)...)
	checkWhy(t, d, api.ErrNone)
}

func elements(set int) (list []int) {
	for n := range 8 {
		if set>>n&1 == 1 {
			list = append(list, n)
		}
	}
	return list
}

// packs returns whether bathers can be dealt to places, place by place: which sets of them can have a place so far. Needs and hands are those of one truth, can is who may have which place.
func packs(d api.Dips, x truth, can func(bather int, place api.DipPlace) bool) bool {
	all := 1<<len(d.Bathers) - 1
	reached := make([]bool, all+1)
	reached[0] = true
	for hour := range d.Hours {
		for n := range d.Dippers {
			after := slices.Clone(reached)
			for had := range reached {
				for more := range reached {
					if reached[had] && had&more == 0 && packed(x, n, more, func(bather int) bool { return can(bather, api.DipPlace{Hour: hour, Dipper: n}) }) {
						after[had|more] = true
					}
				}
			}
			reached = after
		}
	}
	return reached[all]
}

// packed returns whether a dipper has hands enough for some bathers at one place, and each can have it.
func packed(x truth, dipper, bathers int, can func(bather int) bool) bool {
	needed := 0
	for bather, needs := range x.needs {
		if bathers>>bather&1 == 1 {
			if !can(bather) {
				return false
			}
			needed += needs
		}
	}
	return needed <= x.hands[dipper]
}

// ends are the worst truth and the best one.
func ends(d api.Dips) (worst, best truth) {
	for _, x := range d.Dippers {
		worst.hands, best.hands = append(worst.hands, x.Hands.Lo), append(best.hands, x.Hands.Hi)
	}
	for _, x := range d.Bathers {
		worst.needs, best.needs = append(worst.needs, x.Needs.Hi), append(best.needs, x.Needs.Lo)
	}
	return worst, best
}

// meets returns who can have which place by the hours.
func meets(d api.Dips) func(bather int, place api.DipPlace) bool {
	return func(bather int, place api.DipPlace) bool {
		return d.Bathers[bather].Hours&d.Dippers[place.Dipper].Hours>>place.Hour&1 == 1
	}
}

// P9.4 to P9.8, of many large dips, against the second way.
func TestAgainstPacking(t *testing.T) {
	var n seen
	for seed := range uint64(5000) {
		d := largeDips(source(10000 + seed))
		worst, best := ends(d)
		right, hope := packs(d, worst, meets(d)), 0
		if right {
			hope = 2
		} else if packs(d, best, meets(d)) {
			hope = 1
		}
		n.hope[hope]++
		checkHope(t, d, hope)
		if plan, e := dip.Plan(d); right != (e == api.OK) {
			t.Error(seed, d, plan, e)
		} else if right {
			checkFirst(t, d, worst, plan)
		}
		checkSets(t, d, worst, right, &n)
	}
	for what, counts := range map[string][]int{"hope": n.hope[:3], "fewest": n.fewest[:4], "most": n.most[:], "why": n.why[1:4]} {
		if slices.Min(counts) < 10 {
			t.Error("the dips do not test all cases", what, counts)
		}
	}
}

// checkFirst fails unless a plan is surely right, and none before it is.
func checkFirst(t *testing.T, d api.Dips, worst truth, plan []api.DipPlace) {
	t.Helper()
	if !worst.right(d, plan) {
		t.Error("wrong", d, plan)
	}
	for bather, its := range plan {
		sooner := func(n int, place api.DipPlace) bool {
			switch {
			case n > bather:
				return meets(d)(n, place)
			case n < bather:
				return place == plan[n]
			}
			return meets(d)(n, place) && (place.Hour < its.Hour || place.Hour == its.Hour && place.Dipper < its.Dipper)
		}
		if packs(d, worst, sooner) {
			t.Error("not first", d, plan, bather)
		}
	}
}

// checkSets looks at Fewest, Most and Why.
func checkSets(t *testing.T, d api.Dips, worst truth, right bool, n *seen) {
	t.Helper()
	helped := func(set int) bool {
		some := just(d, set)
		x, _ := ends(some)
		return packs(some, x, meets(some))
	}
	most, _ := chosen(len(d.Bathers), helped, more)
	n.most[size(most)]++
	checkMost(t, d, elements(most)...)
	if !right {
		why, _ := chosen(len(d.Bathers), func(set int) bool { return !helped(set) }, fewer)
		n.why[size(why)]++
		checkWhy(t, d, api.OK, elements(why)...)
		checkFewest(t, d, api.ErrNone)
		return
	}
	few, _ := chosen(len(d.Dippers), func(set int) bool {
		return packs(d, worst, func(bather int, place api.DipPlace) bool {
			return set>>place.Dipper&1 == 1 && meets(d)(bather, place)
		})
	}, fewer)
	n.fewest[size(few)]++
	checkWhy(t, d, api.ErrNone)
	checkFewest(t, d, api.OK, elements(few)...)
}

// story is what is true of dips: any number of each span.
func story(r *rand.Rand, d api.Dips) (x truth) {
	for _, y := range d.Dippers {
		x.hands = append(x.hands, from(r, y.Hands.Lo, y.Hands.Hi))
	}
	for _, y := range d.Bathers {
		x.needs = append(x.needs, from(r, y.Needs.Lo, y.Needs.Hi))
	}
	return x
}

// holds returns whether by a plan each bather has a dipper who is there, and no dipper has more to hold than hands.
func (x truth) holds(d api.Dips, plan []api.DipPlace) bool {
	held := map[api.DipPlace]int{}
	for bather, place := range plan {
		held[place] += x.needs[bather]
		if !meets(d)(bather, place) {
			return false
		}
	}
	for place, many := range held {
		if many > x.hands[place.Dipper] {
			return false
		}
	}
	return true
}

// P9.9, P2 and P9: what a plan is said to be it is, however many hands there truly are.
func TestWhatIsTrue(t *testing.T) {
	var right [3]int
	for seed := range uint64(2000) {
		r := source(20000 + seed)
		d := largeDips(r)
		list := [][]api.DipPlace{}
		if plan, e := dip.Plan(d); e == api.OK {
			list = append(list, plan)
			checkRight(t, d, 2, plan)
		}
		for range 5 {
			if len(d.Dippers) > 0 {
				list = append(list, somePlan(r, d))
			}
		}
		for _, plan := range list {
			n, e := dip.Right(d, plan)
			if e != api.OK {
				t.Fatal(seed, d, plan, e)
			}
			right[n]++
			for range 5 {
				x := story(r, d)
				if holds := x.holds(d, plan); holds && n == 0 || !holds && n == 2 {
					t.Error(seed, d, plan, x, n, holds)
				}
			}
		}
	}
	if slices.Min(right[:]) < 500 {
		t.Error("the dips do not test all cases", right)
	}
}

// P9.7, P9.8 and P9.9: those of Most can all be helped; those of Why cannot, any fewer of them can, and they are never all among those of Most.
func TestMostAgainstWhy(t *testing.T) {
	clashing := 0
	for seed := range uint64(2000) {
		d := largeDips(source(30000 + seed))
		many, most, _ := dip.Most(d)
		if _, e := dip.Plan(just(d, most)); many != size(most) || e != api.OK {
			t.Error(seed, d, many, most, e)
		}
		why, e := dip.Why(d)
		if (e == api.OK) != (many < len(d.Bathers)) {
			t.Error(seed, d, many, why, e)
		}
		if e != api.OK {
			continue
		}
		clashing++
		if why&^most == 0 {
			t.Error(seed, d, most, why)
		}
		checkPlan(t, just(d, why), api.ErrNone, nil)
		for _, n := range elements(why) {
			if _, e := dip.Plan(just(d, why&^(1<<n))); e != api.OK {
				t.Error(seed, d, why, n, e)
			}
		}
	}
	if clashing < 300 {
		t.Error("the dips test too little", clashing)
	}
}
