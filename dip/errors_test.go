package dip_test

import (
	"math"
	"slices"
	"testing"

	"dipworks/api"
	"dipworks/dip"
)

// call is a call of one of the functions: its error, and whether all other results are zero values.
type call struct {
	name       string
	hour, plan bool // Whether it takes an hour, or a plan.
	do         func(d api.Dips, hour int, plan []api.DipPlace) (api.Errno, bool)
}

func calls() []call {
	return []call{
		{"Check", false, true, func(d api.Dips, _ int, plan []api.DipPlace) (api.Errno, bool) {
			n, rule, e := dip.Check(d, plan)
			return e, n == 0 && rule == 0
		}},
		{"Right", false, true, func(d api.Dips, _ int, plan []api.DipPlace) (api.Errno, bool) {
			n, e := dip.Right(d, plan)
			return e, n == 0
		}},
		{"Hands", true, false, func(d api.Dips, hour int, _ []api.DipPlace) (api.Errno, bool) {
			s, e := dip.Hands(d, hour)
			return e, s == span(0, 0)
		}},
		{"Plan", false, false, func(d api.Dips, _ int, _ []api.DipPlace) (api.Errno, bool) {
			l, e := dip.Plan(d)
			return e, len(l) == 0
		}},
		{"Hope", false, false, func(d api.Dips, _ int, _ []api.DipPlace) (api.Errno, bool) {
			n, e := dip.Hope(d)
			return e, n == 0
		}},
		{"Fewest", false, false, func(d api.Dips, _ int, _ []api.DipPlace) (api.Errno, bool) {
			n, e := dip.Fewest(d)
			return e, n == 0
		}},
		{"Most", false, false, func(d api.Dips, _ int, _ []api.DipPlace) (api.Errno, bool) {
			many, n, e := dip.Most(d)
			return e, many == 0 && n == 0
		}},
		{"Why", false, false, func(d api.Dips, _ int, _ []api.DipPlace) (api.Errno, bool) {
			n, e := dip.Why(d)
			return e, n == 0
		}},
	}
}

// named is dips with a name.
type named struct {
	name string
	d    api.Dips
}

const low, high = math.MinInt, math.MaxInt

func changed(name string, change func(d *api.Dips)) named {
	d := dipsD()
	change(&d)
	return named{name, d}
}

// invalid are dips that are not valid, each for one reason.
func invalid() []named {
	list := []named{{"nothing", api.Dips{}}}
	for _, n := range []int{low, -1, 0, 5, 6, high} {
		list = append(list, changed("hours", func(d *api.Dips) { d.Hours = n }), named{"hours alone", dips(n, nil)})
	}
	for _, many := range []int{4, 5, 100} {
		list = append(list, changed("dippers", func(d *api.Dips) { d.Dippers = slices.Repeat(d.Dippers[:1], many) }))
	}
	for _, many := range []int{6, 7, 100} {
		list = append(list, changed("bathers", func(d *api.Dips) { d.Bathers = slices.Repeat(d.Bathers[:1], many) }))
	}
	// Hours that are no more.
	for n := range 2 {
		list = append(list, changed("a dipper's hours", func(d *api.Dips) { d.Dippers[n].Hours = setOf(3) }), changed("a dipper's hours, of fewer", func(d *api.Dips) { d.Hours, d.Dippers[n].Hours = 2, setOf(0, 2) }))
	}
	return slices.Concat(list, invalidDippers(), invalidBathers())
}

func invalidDippers() (list []named) {
	add := func(name string, change func(x *api.Dipper)) {
		for n := range 2 {
			list = append(list, changed(name, func(d *api.Dips) { change(&d.Dippers[n]) }))
		}
	}
	for _, hands := range []api.Span{span(-1, -1), span(-1, 0), span(-1, 8), span(low, 4), span(low, low), span(1, 0), span(8, 7), span(8, 0), span(0, 9), span(8, 9), span(9, 9), span(9, 8), span(3, high), span(high, high), span(low, high), span(high, low)} {
		add("hands", func(x *api.Dipper) { x.Hands = hands })
	}
	for _, hours := range []int{low, -8, -1, 8, 9, 15, 16, 1 << 40, high} {
		add("hours", func(x *api.Dipper) { x.Hours = hours })
	}
	return list
}

func invalidBathers() (list []named) {
	add := func(name string, change func(x *api.DipBather)) {
		for n := range 3 {
			list = append(list, changed(name, func(d *api.Dips) { change(&d.Bathers[n]) }))
		}
	}
	for _, needs := range []api.Span{span(0, 0), span(0, 1), span(0, 4), span(-1, 2), span(low, 4), span(low, low), span(2, 1), span(4, 3), span(4, 1), span(1, 5), span(4, 5), span(5, 5), span(5, 4), span(3, high), span(high, high), span(low, high), span(high, low)} {
		add("needs", func(x *api.DipBather) { x.Needs = needs })
	}
	for _, hours := range []int{low, -8, -1, 8, 9, 15, 16, 1 << 40, high} {
		add("hours", func(x *api.DipBather) { x.Hours = hours })
	}
	return list
}

// limits are dips that go as far as they may.
func limits() []named {
	return []named{
		{"nobody", dips(1, nil)}, {"nobody, in four hours", dips(4, nil)}, {"dippers only", dips(4, whole(span(0, 8), span(1, 1)).Dippers)}, {"bathers only", dips(4, nil, whole(span(0, 8), span(1, 4)).Bathers...)},
		{"no hands", whole(span(0, 0), span(1, 1))}, {"all hands", whole(span(8, 8), span(4, 4))}, {"any hands", whole(span(0, 8), span(1, 4))}, {"one hour", alone(0, 8, bather(1, 4, 0))}, {"no hours", dips(4, dippers(dipper(0, 8), dipper(0, 8)), bather(1, 4), bather(1, 4))}, {"the last hour", dips(4, dippers(dipper(0, 8, 3)), bather(1, 4, 3))}, {"all hours of three", changed("", func(d *api.Dips) { d.Dippers[0].Hours, d.Bathers[0].Hours = 7, 7 }).d},
	}
}

// ErrArg comes first, whatever else is wrong, and with it there is no other result.
func TestInvalidDips(t *testing.T) {
	for i, x := range invalid() {
		for _, f := range calls() {
			for _, n := range []int{low, -1, 0, 2, 4, high} {
				for _, plan := range [][]api.DipPlace{nil, places(n, n), places(n, 0, n, 1, n, 0), places(0, 0, 1, 1, 1, 0), make([]api.DipPlace, len(x.d.Bathers))} {
					if e, zero := f.do(x.d, n, plan); e != api.ErrArg || !zero {
						t.Error(i, x.name, f.name, n, plan, e, zero)
					}
				}
			}
		}
	}
}

// Dips that go as far as they may are valid.
func TestLimits(t *testing.T) {
	for _, x := range limits() {
		for _, f := range calls() {
			if f.plan && len(x.d.Dippers) == 0 && len(x.d.Bathers) > 0 {
				continue // There is no plan.
			}
			if e, _ := f.do(x.d, x.d.Hours-1, make([]api.DipPlace, len(x.d.Bathers))); e != api.OK && e != api.ErrNone {
				t.Error(x.name, f.name, e)
			}
		}
	}
}

// ErrRange comes just beyond hours and dippers, for each place of a plan and for one too few or too many, and of what a function takes alone.
func TestRanges(t *testing.T) {
	d := dipsD()
	for _, f := range calls() {
		for _, n := range []int{low, -1, 3, 4, high} {
			if e, zero := f.do(d, n, places(0, 0, 1, 1, 1, 0)); (e == api.ErrRange) != f.hour || f.hour && !zero {
				t.Error(f.name, n, e, zero)
			}
		}
		for i, plan := range notPlans() {
			if e, zero := f.do(d, 0, plan); (e == api.ErrRange) != f.plan || f.plan && !zero {
				t.Error(f.name, i, plan, e, zero)
			}
		}
		for hour := range 3 {
			if e, _ := f.do(d, hour, places(hour, 1, 2, 1, 0, 0)); e == api.ErrRange {
				t.Error(f.name, hour, e)
			}
		}
		if e, _ := f.do(dips(1, nil), 1, places(0, 0)); (e == api.ErrRange) != (f.hour || f.plan) {
			t.Error(f.name, "nobody", e)
		}
		// Without dippers no list with a place is a plan.
		for _, plan := range [][]api.DipPlace{nil, places(0, 0), places(0, -1)} {
			if e, _ := f.do(dips(1, nil, bather(1, 1, 0)), 0, plan); (e == api.ErrRange) != f.plan {
				t.Error(f.name, "no dipper", plan, e)
			}
		}
	}
}

// notPlans are no plans of D.
func notPlans() (list [][]api.DipPlace) {
	list = [][]api.DipPlace{nil, {}, places(0, 0), places(0, 0, 1, 1), places(0, 0, 1, 1, 1, 0, 1, 0), make([]api.DipPlace, 100)}
	for n := range 3 {
		for _, x := range []int{low, -1, 2, 3, 4, high} {
			plan := places(0, 0, 1, 1, 1, 0)
			plan[n].Dipper = x
			list = append(list, plan)
			if x != 2 { // It is an hour.
				plan := places(0, 0, 1, 1, 1, 0)
				plan[n].Hour = x
				list = append(list, plan)
			}
		}
	}
	return list
}

// R3: nil lists and empty ones are the same, and if nobody bathes there is one plan, which is surely right.
func TestNobodyBathes(t *testing.T) {
	for _, them := range [][]api.Dipper{nil, {}, dippers(dipper(0, 8, 0)), dippers(dipper(0, 0), dipper(8, 8, 0, 1))} {
		for _, bathers := range [][]api.DipBather{nil, {}} {
			for _, plan := range [][]api.DipPlace{nil, {}} {
				d := dips(2, them, bathers...)
				d.Bathers = bathers
				checkCheck(t, d, 0, 0, api.ErrNone, plan)
				checkRight(t, d, 2, plan)
				checkPlan(t, d, api.OK, nil)
				checkHope(t, d, 2)
				checkFewest(t, d, api.OK)
				checkMost(t, d)
				checkWhy(t, d, api.ErrNone)
			}
		}
	}
}

// R4: no argument is changed, nor what lies behind it in memory.
func TestArgumentsStay(t *testing.T) {
	for _, d := range []api.Dips{dipsD(), dipsE(), whole(span(3, 8), span(1, 4)), whole(span(8, 8), span(2, 4))} {
		them, bathers, plan := append(slices.Clone(d.Dippers), dipper(1, 2, 0)), append(slices.Clone(d.Bathers), bather(3, 4, 1)), places(0, 0, 0, 1, 1, 0, 0, 0, 1, 1, 1, 0)
		sameThem, sameBathers, samePlan := slices.Clone(them), slices.Clone(bathers), slices.Clone(plan)
		d.Dippers, d.Bathers = them[:len(them)-1], bathers[:len(bathers)-1]
		for _, f := range calls() {
			f.do(d, 0, plan[:len(d.Bathers)])
			if !slices.Equal(them, sameThem) || !slices.Equal(bathers, sameBathers) || !slices.Equal(plan, samePlan) {
				t.Fatal(f.name, them, bathers, plan)
			}
		}
	}
}

// R4: each plan is new memory, so that what is done to one shows in no other one.
func TestResultsAreNew(t *testing.T) {
	for range 3 {
		one, _ := dip.Plan(dipsD())
		other, _ := dip.Plan(dipsD())
		if !slices.Equal(one, places(0, 0, 1, 1, 1, 0)) {
			t.Error(one)
		}
		clear(one[:cap(one)])
		if !slices.Equal(other, places(0, 0, 1, 1, 1, 0)) {
			t.Error(other)
		}
	}
}

// Nothing is kept from call to call: after a call with an error, or of other dips, all is as it was.
func TestCallsKnowNothingOfOneAnother(t *testing.T) {
	for range 2 {
		TestExamples(t)
		for _, f := range calls() {
			f.do(api.Dips{}, 0, nil)
			f.do(dipsE(), -1, places(0, 0, 0, 0, 0, 2))
			f.do(whole(span(0, 8), span(1, 4)), 3, make([]api.DipPlace, 5))
			f.do(dips(4, nil, bather(1, 1, 0)), 3, places(0, 0))
		}
	}
}
