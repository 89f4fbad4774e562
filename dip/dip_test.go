package dip_test

import (
	"slices"
	"testing"

	"dipworks/api"
	"dipworks/dip"
)

func span(lo, hi int) api.Span { return api.Span{Lo: lo, Hi: hi} }

func setOf(elements ...int) (set int) {
	for _, n := range elements {
		set |= 1 << n
	}
	return set
}

// dipper and bather come in the hours that are named.
func dipper(lo, hi int, hours ...int) api.Dipper {
	return api.Dipper{Hands: span(lo, hi), Hours: setOf(hours...)}
}

func bather(lo, hi int, hours ...int) api.DipBather {
	return api.DipBather{Needs: span(lo, hi), Hours: setOf(hours...)}
}

func dippers(list ...api.Dipper) []api.Dipper { return list }

func dips(hours int, dippers []api.Dipper, bathers ...api.DipBather) api.Dips {
	return api.Dips{Hours: hours, Dippers: dippers, Bathers: bathers}
}

// places is a plan: the hour and the dipper of each bather in turn.
func places(numbers ...int) (plan []api.DipPlace) {
	for pair := range slices.Chunk(numbers, 2) {
		plan = append(plan, api.DipPlace{Hour: pair[0], Dipper: pair[1]})
	}
	return plan
}

// dipsD and dipsE are those of the examples.
func dipsD() api.Dips {
	return dips(3, dippers(dipper(3, 4, 0, 1), dipper(2, 2, 1, 2)), bather(2, 2, 0, 1), bather(1, 2, 1), bather(2, 3, 1, 2))
}

func dipsE() api.Dips {
	d := dipsD()
	d.Bathers[2].Hours = setOf(2)
	return d
}

// alone is one dipper and one hour.
func alone(lo, hi int, bathers ...api.DipBather) api.Dips {
	return dips(1, dippers(dipper(lo, hi, 0)), bathers...)
}

// whole is as much as there may be: all are there in all hours.
func whole(hands, needs api.Span) api.Dips {
	d := dips(4, slices.Repeat(dippers(dipper(0, 0, 0, 1, 2, 3)), 3), slices.Repeat([]api.DipBather{bather(0, 0, 0, 1, 2, 3)}, 5)...)
	for n := range d.Dippers {
		d.Dippers[n].Hands = hands
	}
	for n := range d.Bathers {
		d.Bathers[n].Needs = needs
	}
	return d
}

func checkCheck(t *testing.T, d api.Dips, bather, rule int, want api.Errno, plan []api.DipPlace) {
	t.Helper()
	if n, r, e := dip.Check(d, plan); n != bather || r != rule || e != want {
		t.Error("Check", d, plan, n, r, e, bather, rule, want)
	}
}

func checkRight(t *testing.T, d api.Dips, right int, plan []api.DipPlace) {
	t.Helper()
	if n, e := dip.Right(d, plan); n != right || e != api.OK {
		t.Error("Right", d, plan, n, e, right)
	}
}

func checkHands(t *testing.T, d api.Dips, hour int, hands api.Span) {
	t.Helper()
	if s, e := dip.Hands(d, hour); s != hands || e != api.OK {
		t.Error("Hands", d, hour, s, e, hands)
	}
}

func checkPlan(t *testing.T, d api.Dips, want api.Errno, plan []api.DipPlace) {
	t.Helper()
	if l, e := dip.Plan(d); !slices.Equal(l, plan) || e != want {
		t.Error("Plan", d, l, e, plan, want)
	}
}

func checkHope(t *testing.T, d api.Dips, hope int) {
	t.Helper()
	if n, e := dip.Hope(d); n != hope || e != api.OK {
		t.Error("Hope", d, n, e, hope)
	}
}

func checkFewest(t *testing.T, d api.Dips, want api.Errno, dippers ...int) {
	t.Helper()
	if n, e := dip.Fewest(d); n != setOf(dippers...) || e != want {
		t.Error("Fewest", d, n, e, dippers, want)
	}
}

func checkMost(t *testing.T, d api.Dips, bathers ...int) {
	t.Helper()
	if many, n, e := dip.Most(d); many != len(bathers) || n != setOf(bathers...) || e != api.OK {
		t.Error("Most", d, many, n, e, bathers)
	}
}

func checkWhy(t *testing.T, d api.Dips, want api.Errno, bathers ...int) {
	t.Helper()
	if n, e := dip.Why(d); n != setOf(bathers...) || e != want {
		t.Error("Why", d, n, e, bathers, want)
	}
}

// The examples of the chapter, and that of the document.
func TestExamples(t *testing.T) {
	d, e := dipsD(), dipsE()
	sure, perhaps, never := places(0, 0, 1, 1, 1, 0), places(0, 0, 1, 0, 1, 0), places(2, 1, 1, 1, 1, 0)
	checkCheck(t, d, 0, 0, api.ErrNone, sure)
	checkCheck(t, d, 2, 2, api.OK, perhaps)
	checkCheck(t, d, 0, 1, api.OK, never)
	checkRight(t, d, 2, sure)
	checkRight(t, d, 1, perhaps)
	checkRight(t, d, 0, never)
	for hour, hands := range []api.Span{span(3, 4), span(5, 6), span(2, 2)} {
		checkHands(t, d, hour, hands)
	}
	checkPlan(t, d, api.OK, sure)
	checkPlan(t, e, api.ErrNone, nil)
	checkHope(t, d, 2)
	checkHope(t, e, 1)
	checkFewest(t, d, api.OK, 0, 1)
	checkMost(t, d, 0, 1, 2)
	checkMost(t, e, 0, 1)
	checkWhy(t, e, api.OK, 2)
	checkWhy(t, d, api.ErrNone)
}

// P9.1: the first bather by number, of this one the first rule, and hands as they are in the worst truth.
func TestCheck(t *testing.T) {
	d, h, n := dipsD(), api.DipHour, api.DipHands
	three := alone(4, 4, bather(2, 2, 0), bather(2, 2, 0), bather(2, 2, 0))
	for i, x := range []struct {
		d            api.Dips
		bather, rule int
		plan         []api.DipPlace
	}{
		// The bather cannot go in in the hour, or the dipper is not there, or both.
		{d, 0, h, places(2, 1, 1, 1, 1, 0)}, {d, 0, h, places(0, 1, 1, 1, 1, 0)}, {d, 0, h, places(2, 0, 1, 1, 1, 0)}, {d, 1, h, places(0, 0, 0, 0, 1, 0)}, {d, 1, h, places(0, 0, 2, 1, 1, 0)}, {d, 2, h, places(0, 0, 1, 1, 0, 0)}, {d, 2, h, places(0, 0, 1, 1, 2, 0)}, {d, 2, h, places(0, 0, 1, 1, 0, 1)},
		// Not enough hands: alone, or with those of lesser numbers at the same place only.
		{d, 2, n, places(0, 0, 1, 1, 1, 1)}, {d, 2, n, places(0, 0, 1, 1, 2, 1)}, {d, 1, n, places(1, 1, 1, 1, 1, 1)}, {d, 1, n, places(1, 0, 1, 0, 1, 1)}, {d, 1, n, places(1, 0, 1, 0, 0, 0)}, {d, 2, n, places(1, 0, 1, 1, 1, 0)},
		{three, 2, n, places(0, 0, 0, 0, 0, 0)}, {dips(2, dippers(dipper(4, 4, 0, 1)), bather(2, 2, 0, 1), bather(2, 2, 0, 1), bather(2, 2, 0, 1)), 0, 0, places(0, 0, 1, 0, 0, 0)},
		// Hours come before hands, of the same bather.
		{alone(0, 0, bather(4, 4)), 0, h, places(0, 0)}, {alone(0, 0, bather(4, 4, 0)), 0, n, places(0, 0)}, {dips(1, dippers(dipper(0, 0)), bather(4, 4, 0)), 0, h, places(0, 0)}, {alone(2, 2, bather(2, 2, 0), bather(2, 2), bather(2, 2, 0)), 1, h, places(0, 0, 0, 0, 0, 0)}, {alone(2, 2, bather(2, 2, 0), bather(2, 2, 0), bather(2, 2)), 1, n, places(0, 0, 0, 0, 0, 0)},
		// The fewest hands of the dipper, and the most that are needed, are what counts.
		{alone(1, 8, bather(1, 2, 0)), 0, n, places(0, 0)}, {alone(2, 8, bather(1, 2, 0)), 0, 0, places(0, 0)}, {alone(3, 8, bather(1, 2, 0), bather(1, 2, 0)), 1, n, places(0, 0, 0, 0)}, {alone(4, 8, bather(1, 2, 0), bather(1, 2, 0)), 0, 0, places(0, 0, 0, 0)}, {alone(7, 7, bather(1, 4, 0), bather(1, 4, 0)), 1, n, places(0, 0, 0, 0)}, {alone(8, 8, bather(1, 4, 0), bather(4, 4, 0)), 0, 0, places(0, 0, 0, 0)},
		// Another hour, or another dipper, is another place.
		{dips(2, dippers(dipper(4, 4, 0, 1)), bather(4, 4, 0), bather(4, 4, 1)), 0, 0, places(0, 0, 1, 0)}, {dips(1, dippers(dipper(4, 4, 0), dipper(4, 4, 0)), bather(4, 4, 0), bather(4, 4, 0)), 0, 0, places(0, 1, 0, 0)}, {dips(1, dippers(dipper(4, 4, 0), dipper(4, 4, 0)), bather(4, 4, 0), bather(4, 4, 0)), 1, n, places(0, 1, 0, 1)},
		{dips(1, nil), 0, 0, nil}, {whole(span(8, 8), span(1, 1)), 0, 0, places(3, 2, 3, 2, 3, 2, 3, 2, 3, 2)}, {whole(span(8, 8), span(1, 2)), 4, n, places(3, 2, 3, 2, 3, 2, 3, 2, 3, 2)},
	} {
		want := api.OK
		if x.rule == 0 {
			want = api.ErrNone
		}
		checkCheck(t, x.d, x.bather, x.rule, want, x.plan)
		if right, e := dip.Right(x.d, x.plan); (right == api.DipAlways) != (x.rule == 0) || e != api.OK {
			t.Error("Right", i, right, e)
		}
	}
}

// P9.2: right in each truth, in some or in none.
func TestRight(t *testing.T) {
	two := func(lo, hi int) api.Dips { return alone(lo, hi, bather(1, 3, 0), bather(2, 4, 0)) }
	for _, x := range []struct {
		d     api.Dips
		right int
	}{
		{two(0, 2), 0}, {two(2, 2), 0}, {two(0, 3), 1}, {two(3, 3), 1}, {two(6, 6), 1}, {two(6, 8), 1}, {two(0, 8), 1}, {two(6, 7), 1}, {two(7, 7), 2}, {two(7, 8), 2}, {two(8, 8), 2},
		{alone(1, 1, bather(1, 2, 0)), 1}, {alone(1, 2, bather(2, 2, 0)), 1}, {alone(1, 1, bather(2, 2, 0)), 0}, {alone(0, 0, bather(1, 4, 0)), 0}, {alone(4, 4, bather(1, 4, 0)), 2}, {alone(0, 1, bather(1, 1, 0)), 1},
		// Hours are the same in all truths.
		{alone(0, 8, bather(1, 4)), 0}, {alone(8, 8, bather(1, 1)), 0}, {dips(1, dippers(dipper(8, 8)), bather(1, 1, 0)), 0}, {alone(0, 8, bather(1, 4, 0), bather(1, 1)), 0},
		{alone(0, 0), 2}, {dips(4, nil), 2},
	} {
		checkRight(t, x.d, x.right, make([]api.DipPlace, len(x.d.Bathers)))
	}
	d := dips(2, dippers(dipper(2, 3, 0, 1), dipper(3, 3, 1)), bather(2, 3, 0, 1), bather(1, 2, 1))
	for _, x := range []struct {
		right int
		plan  []api.DipPlace
	}{
		{1, places(0, 0, 1, 0)}, {1, places(0, 0, 1, 1)}, {0, places(0, 1, 1, 1)}, {1, places(1, 0, 1, 0)}, {1, places(1, 0, 1, 1)}, {2, places(1, 1, 1, 0)}, {1, places(1, 1, 1, 1)}, {0, places(1, 1, 0, 0)},
	} {
		checkRight(t, d, x.right, x.plan)
	}
}

// P9.3: those who are there in the hour, whoever bathes.
func TestHands(t *testing.T) {
	d := dips(4, dippers(dipper(1, 8, 0, 2), dipper(0, 3, 0, 1), dipper(5, 5, 0, 2)), bather(4, 4, 0, 1, 2, 3))
	for hour, hands := range []api.Span{span(6, 16), span(0, 3), span(6, 13), span(0, 0)} {
		checkHands(t, d, hour, hands)
	}
	for hour := range 4 {
		checkHands(t, dips(4, nil), hour, span(0, 0))
		checkHands(t, dips(4, nil, bather(1, 4, 0, 1, 2, 3)), hour, span(0, 0))
		checkHands(t, whole(span(8, 8), span(1, 4)), hour, span(24, 24))
		checkHands(t, whole(span(0, 8), span(4, 4)), hour, span(0, 24))
		checkHands(t, whole(span(0, 0), span(1, 1)), hour, span(0, 0))
	}
}

// P9.4: of several plans the first one: by the bathers, by the hour, by the dipper.
func TestPlan(t *testing.T) {
	both := dippers(dipper(2, 2, 0, 1), dipper(2, 2, 0, 1))
	for _, x := range []struct {
		d    api.Dips
		plan []api.DipPlace
	}{
		{dips(2, both, bather(2, 2, 0, 1)), places(0, 0)}, {dips(2, both, bather(2, 2, 0, 1), bather(2, 2, 0, 1)), places(0, 0, 0, 1)}, {dips(2, both, bather(2, 2, 0, 1), bather(2, 2, 0, 1), bather(2, 2, 0, 1)), places(0, 0, 0, 1, 1, 0)}, {dips(2, both, bather(1, 1, 0, 1), bather(2, 2, 0, 1), bather(1, 1, 0, 1)), places(0, 0, 0, 1, 0, 0)},
		// A place is left to somebody who has no other one.
		{dips(2, both[:1], bather(2, 2, 0, 1), bather(2, 2, 0)), places(1, 0, 0, 0)}, {dips(2, both, bather(2, 2, 0, 1), bather(2, 2, 0, 1), bather(2, 2, 0), bather(2, 2, 0)), places(1, 0, 1, 1, 0, 0, 0, 1)}, {dips(2, both, bather(2, 2, 0, 1), bather(2, 2, 0, 1), bather(2, 2, 0)), places(0, 0, 1, 0, 0, 1)}, {dips(1, dippers(dipper(2, 2, 0), dipper(1, 1, 0)), bather(1, 1, 0), bather(2, 2, 0)), places(0, 1, 0, 0)}, {dips(1, dippers(dipper(3, 3, 0), dipper(4, 4, 0)), bather(2, 2, 0), bather(2, 2, 0), bather(3, 3, 0)), places(0, 1, 0, 1, 0, 0)},
		{dips(3, dippers(dipper(0, 8, 0, 1, 2), dipper(3, 8, 2), dipper(4, 8, 1)), bather(1, 3, 0, 1, 2), bather(1, 1, 2)), places(1, 2, 2, 1)}, {dips(4, dippers(dipper(4, 4, 3), dipper(4, 4, 3), dipper(4, 4, 3)), bather(4, 4, 0, 1, 2, 3), bather(4, 4, 3), bather(4, 4, 2, 3)), places(3, 0, 3, 1, 3, 2)},
		{alone(8, 8, bather(2, 2, 0), bather(2, 2, 0), bather(2, 2, 0), bather(1, 1, 0), bather(1, 1, 0)), make([]api.DipPlace, 5)}, {whole(span(8, 8), span(4, 4)), places(0, 0, 0, 0, 0, 1, 0, 1, 0, 2)}, {whole(span(4, 4), span(1, 4)), places(0, 0, 0, 1, 0, 2, 1, 0, 1, 1)}, {alone(0, 0), nil}, {dips(1, nil), nil},
	} {
		checkPlan(t, x.d, api.OK, x.plan)
		checkHope(t, x.d, api.DipAlways)
		checkWhy(t, x.d, api.ErrNone)
		checkCheck(t, x.d, 0, 0, api.ErrNone, x.plan)
	}
}

// P9.4 and P9.5: no plan is surely right, but perhaps one is in some truth.
func TestHope(t *testing.T) {
	for _, x := range []struct {
		d    api.Dips
		hope int
	}{
		{alone(1, 2, bather(2, 2, 0)), 1}, {alone(2, 2, bather(2, 3, 0)), 1}, {alone(1, 1, bather(2, 2, 0)), 0}, {alone(0, 8, bather(1, 4)), 0}, {dips(2, nil, bather(1, 1, 0, 1)), 0}, {dips(1, dippers(dipper(8, 8)), bather(1, 1, 0)), 0}, {dips(2, dippers(dipper(8, 8, 1)), bather(1, 1, 0)), 0},
		// The same truth has to do for all bathers, but another plan in each truth is not enough for Always.
		{alone(3, 4, bather(2, 2, 0), bather(2, 2, 0)), 1}, {alone(2, 3, bather(2, 2, 0), bather(2, 2, 0)), 0}, {dips(1, dippers(dipper(1, 2, 0), dipper(1, 2, 0)), bather(2, 2, 0), bather(1, 1, 0)), 1}, {dips(1, dippers(dipper(2, 2, 0), dipper(3, 3, 0)), bather(2, 3, 0), bather(2, 3, 0)), 1}, {dips(1, dippers(dipper(4, 4, 0), dipper(1, 1, 0)), bather(4, 4, 0), bather(1, 1, 0), bather(1, 1, 0)), 0},
		{whole(span(0, 1), span(1, 1)), 1}, {whole(span(0, 0), span(1, 1)), 0}, {whole(span(3, 3), span(3, 4)), 1}, {whole(span(3, 3), span(4, 4)), 0},
	} {
		checkPlan(t, x.d, api.ErrNone, nil)
		checkHope(t, x.d, x.hope)
		checkFewest(t, x.d, api.ErrNone)
	}
}

// P9.6: the fewest dippers come before the least number.
func TestFewest(t *testing.T) {
	one := func(hands int) api.Dipper { return dipper(hands, hands, 0) }
	two := bather(2, 2, 0)
	for _, x := range []struct {
		d    api.Dips
		them []int
	}{
		{alone(8, 8), nil}, {dips(1, nil), nil}, {dips(1, dippers(one(2), one(2), one(2))), nil}, {dips(1, dippers(one(2), one(2), one(2)), two), []int{0}}, {dips(1, dippers(one(1), one(2), one(2)), two), []int{1}}, {dips(1, dippers(one(1), one(0), one(2)), two), []int{2}},
		{dips(1, dippers(one(2), one(2), one(2)), two, two), []int{0, 1}}, {dips(1, dippers(one(2), one(1), one(2)), two, two), []int{0, 2}}, {dips(1, dippers(one(1), one(3), one(2)), two, two), []int{1, 2}}, {dips(1, dippers(one(2), one(2), one(4)), two, two), []int{2}}, {dips(1, dippers(one(2), one(2), one(2)), two, two, two), []int{0, 1, 2}}, {dips(1, dippers(one(2), one(2), one(4)), two, two, two), []int{0, 2}}, {dips(1, dippers(one(1), one(2), one(4)), two, two, two), []int{1, 2}},
		// The first plan is with two, another one with one alone; or by hours.
		{dips(2, dippers(dipper(2, 2, 0), dipper(2, 2, 0, 1)), bather(2, 2, 0), bather(2, 2, 1)), []int{1}}, {dips(2, dippers(dipper(8, 8, 0), dipper(8, 8, 1)), bather(1, 1, 0), bather(1, 1, 1)), []int{0, 1}}, {dips(2, dippers(dipper(8, 8, 0), dipper(8, 8, 1), dipper(1, 8, 0, 1)), bather(1, 1, 0), bather(1, 1, 1)), []int{2}}, {dips(2, dippers(dipper(8, 8, 0), dipper(8, 8, 1), dipper(0, 8, 0, 1)), bather(1, 1, 0), bather(1, 1, 1)), []int{0, 1}},
		{whole(span(8, 8), span(1, 4)), []int{0}}, {whole(span(4, 4), span(1, 4)), []int{0, 1}}, {whole(span(4, 8), span(1, 2)), []int{0}},
	} {
		checkFewest(t, x.d, api.OK, x.them...)
		checkHope(t, x.d, api.DipAlways)
	}
}

// P9.7 and P9.8: as many as can be, or as few as cannot, and of several the least number.
func TestMostAndWhy(t *testing.T) {
	two, three, never := bather(2, 2, 0), bather(3, 3, 0), bather(1, 1)
	for _, x := range []struct {
		d         api.Dips
		most, why []int
	}{
		{alone(4, 4, two, two, two), []int{0, 1}, []int{0, 1, 2}}, {alone(3, 3, two, two, two), []int{0}, []int{0, 1}}, {alone(1, 1, two, two, two), nil, []int{0}}, {alone(4, 4, three, two, two), []int{1, 2}, []int{0, 1}}, {alone(4, 4, two, three, two), []int{0, 2}, []int{0, 1}}, {alone(4, 4, two, two, three), []int{0, 1}, []int{0, 2}}, {alone(2, 2, three, two, two), []int{1}, []int{0}}, {alone(2, 2, two, two, three), []int{0}, []int{2}}, {alone(0, 8, two), nil, []int{0}}, {alone(2, 2, bather(1, 3, 0)), nil, []int{0}},
		// Who never can go in is not in the way of the others.
		{alone(8, 8, never, two, two), []int{1, 2}, []int{0}}, {alone(8, 8, two, never, two), []int{0, 2}, []int{1}}, {alone(2, 2, two, two, never), []int{0}, []int{2}}, {alone(8, 8, never, never), nil, []int{0}}, {dips(1, nil, two, two), nil, []int{0}},
		// Three cannot, though any two can; and two cannot, of lesser or greater numbers.
		{dips(2, dippers(dipper(2, 2, 0, 1)), bather(2, 2, 0, 1), bather(2, 2, 0, 1), bather(2, 2, 0, 1)), []int{0, 1}, []int{0, 1, 2}}, {dips(2, dippers(dipper(2, 2, 0, 1)), bather(2, 2, 0, 1), bather(2, 2, 1), bather(2, 2, 1)), []int{0, 1}, []int{1, 2}}, {dips(2, dippers(dipper(2, 2, 0, 1)), bather(2, 2, 0), bather(2, 2, 1), bather(2, 2, 1), bather(2, 2, 0)), []int{0, 1}, []int{1, 2}}, {dips(2, dippers(dipper(2, 2, 0, 1)), bather(2, 2, 0), bather(2, 2, 0), bather(2, 2, 0), bather(2, 2, 1)), []int{0, 3}, []int{0, 1}}, {dips(1, dippers(dipper(4, 4, 0), dipper(1, 1, 0)), bather(4, 4, 0), bather(1, 1, 0), bather(1, 1, 0)), []int{0, 1}, []int{0, 1, 2}},
		{whole(span(3, 8), span(1, 4)), nil, []int{0}}, {dips(1, nil), nil, nil}, {alone(8, 8), nil, nil},
		{alone(8, 8, two, two, two, two, two), []int{0, 1, 2, 3}, []int{0, 1, 2, 3, 4}}, {alone(7, 7, three, two, two, two, bather(1, 1, 0)), []int{1, 2, 3, 4}, []int{0, 1, 2, 3}}, {alone(8, 8, bather(4, 4, 0), bather(4, 4, 0), bather(4, 4, 0), bather(4, 4, 0), bather(1, 1, 0)), []int{0, 1}, []int{0, 1, 2}},
	} {
		e := api.OK
		if x.why == nil {
			e = api.ErrNone
		}
		checkMost(t, x.d, x.most...)
		checkWhy(t, x.d, e, x.why...)
	}
	checkMost(t, whole(span(4, 4), span(4, 4)), 0, 1, 2, 3, 4)
}
