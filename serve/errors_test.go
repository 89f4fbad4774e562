package serve_test

import (
	"math"
	"slices"
	"testing"

	"dipworks/api"
	"dipworks/serve"
)

// call is a call of one of the functions: its error, and whether all other results are zero values.
type call struct {
	name         string
	bather, plan bool // Whether it takes a bather, or a plan.
	do           func(s api.Serve, bather int, plan []int) (api.Errno, bool)
}

func calls() []call {
	return []call{
		{"Right", true, false, func(s api.Serve, bather int, _ []int) (api.Errno, bool) {
			n, e := serve.Right(s, bather)
			return e, n == 0
		}},
		{"Check", false, true, func(s api.Serve, _ int, plan []int) (api.Errno, bool) {
			n, rule, e := serve.Check(s, plan)
			return e, n == 0 && rule == 0
		}},
		{"Count", false, false, func(s api.Serve, _ int, _ []int) (api.Errno, bool) {
			n, e := serve.Count(s)
			return e, n == 0
		}},
		{"Moves", false, true, func(s api.Serve, _ int, plan []int) (api.Errno, bool) {
			l, e := serve.Moves(s, plan)
			return e, len(l) == 0
		}},
		{"Best", false, false, func(s api.Serve, _ int, _ []int) (api.Errno, bool) {
			n, l, e := serve.Best(s)
			return e, n == 0 && len(l) == 0
		}},
		{"Horses", false, false, func(s api.Serve, _ int, _ []int) (api.Errno, bool) {
			n, l, e := serve.Horses(s)
			return e, n == 0 && len(l) == 0
		}},
		{"First", false, false, func(s api.Serve, _ int, _ []int) (api.Errno, bool) {
			n, e := serve.First(s)
			return e, n == 0
		}},
		{"Drop", false, false, func(s api.Serve, _ int, _ []int) (api.Errno, bool) {
			n, e := serve.Drop(s)
			return e, n == 0
		}},
	}
}

// named is a serve with a name.
type named struct {
	name string
	s    api.Serve
}

const low, high = math.MinInt, math.MaxInt

// invalid are serves that are not valid, each for one reason.
func invalid() []named {
	return slices.Concat(invalidTides(), invalidNumbers(), invalidStays())
}

func changed(name string, change func(s *api.Serve)) named {
	s := serveS()
	change(&s)
	return named{name, s}
}

func invalidTides() []named {
	return []named{
		{"nothing", api.Serve{}}, {"no tide", api.Serve{Soft: span(1, 1)}},
		changed("no mark", func(s *api.Serve) { s.Tide.Marks = nil }), changed("one mark", func(s *api.Serve) { s.Tide.Marks = s.Tide.Marks[:1] }), changed("five marks", func(s *api.Serve) {
			s.Tide.Marks = append(s.Tide.Marks, api.TideMark{Minute: 130}, api.TideMark{Minute: 140})
		}), changed("marks too near", func(s *api.Serve) { s.Tide.Marks[1].Minute = 115 }), changed("a mark too wide", func(s *api.Serve) { s.Tide.Marks[1].Height = span(40, 43) }), changed("a mark too late", func(s *api.Serve) { s.Tide.Marks[2].Minute = 241 }),
		changed("no sand", func(s *api.Serve) { s.Tide.Sand = nil; s.Tide.Looks = nil }), changed("too much sand", func(s *api.Serve) { s.Tide.Sand = make([]api.Span, 5) }), changed("sand too wide", func(s *api.Serve) { s.Tide.Sand[1] = span(17, 20) }), changed("sand too high", func(s *api.Serve) { s.Tide.Sand[0] = span(60, 61) }), changed("sand too low", func(s *api.Serve) { s.Tide.Sand[0] = span(-1, 0) }),
		changed("a look at no place", func(s *api.Serve) { s.Tide.Looks[0].Place = 2 }), changed("a look at no minute", func(s *api.Serve) { s.Tide.Looks[0].Minute = 121 }), changed("a look of no depth", func(s *api.Serve) { s.Tide.Looks[0].Depth = span(6, 5) }), changed("too many looks", func(s *api.Serve) { s.Tide.Looks = slices.Repeat(s.Tide.Looks, 7) }),
		// Not even a look that cannot be right comes before it.
		changed("a clash too", func(s *api.Serve) { *s = clashing(*s); s.Pace = 4 }),
	}
}

func invalidNumbers() (list []named) {
	for _, soft := range []api.Span{span(0, 0), span(0, 3), span(-1, 3), span(2, 1), span(6, 5), span(1, 7), span(7, 7), span(6, 7), span(low, 3), span(1, high), span(low, high), span(high, high), span(low, low), span(high, low)} {
		list = append(list, changed("soft", func(s *api.Serve) { s.Soft = soft }))
	}
	for _, n := range []int{low, -1, 4, 5, high} {
		list = append(list, changed("pace", func(s *api.Serve) { s.Pace = n }))
	}
	for _, many := range []int{6, 7, 100} {
		list = append(list, changed("bathers", func(s *api.Serve) { s.Bathers = slices.Repeat(s.Bathers[:1], many) }))
	}
	return list
}

func invalidStays() (list []named) {
	add := func(name string, change func(b *api.ServeBather)) {
		for n := range 4 {
			list = append(list, changed(name, func(s *api.Serve) { change(&s.Bathers[n]) }))
		}
	}
	for _, n := range []int{low, -1, 4, 5, high} {
		add("hut", func(b *api.ServeBather) { b.Hut = n })
	}
	for _, n := range []int{low, -1, 121, 200, high} {
		add("from", func(b *api.ServeBather) { b.From = n })
		add("to", func(b *api.ServeBather) { b.To = n })
	}
	add("no stay", func(b *api.ServeBather) { b.To = b.From })
	add("to before from", func(b *api.ServeBather) { b.To = b.From - 1 })
	add("from the last minute on", func(b *api.ServeBather) { b.From, b.To = 120, 121 })
	for _, x := range []api.Span{span(-1, 60), span(low, 60), span(61, 61), span(0, 61), span(0, high), span(1, 0), span(60, 59), span(high, low), span(low, high), span(-1, -1), span(high, high)} {
		add("water", func(b *api.ServeBather) { b.Least, b.Most = x.Lo, x.Hi })
	}
	// A tide may begin late, and go on for longer than bathers may stay.
	late := calm(span(1, 1), 0, anybody(0, 10, 20))
	late.Tide.Marks[0].Minute = 11
	return append(list, named{"from before the tide", late}, named{"to too late", calm(span(1, 1), 0, anybody(0, 10, 201))}, named{"from too late", calm(span(1, 1), 0, anybody(0, 200, 201))}, named{"all too late", calm(span(1, 1), 0, anybody(0, 210, 220))})
}

// limits are serves that go as far as they may.
func limits() []named {
	late := calm(span(1, 1), 0, anybody(0, 10, 11))
	late.Tide.Marks[0].Minute = 10
	whole := serveS()
	whole.Bathers[0] = bather(0, 0, 120, 0, 60)
	return []named{
		{"nobody", calm(span(1, 1), 0)}, {"an empty list", calm(span(1, 1), 0, []api.ServeBather{}...)}, {"hard sand", calm(span(1, 1), 3, anybody(3, 0, 1))}, {"soft sand", calm(span(6, 6), 3, anybody(0, 199, 200))}, {"any sand", calm(span(1, 6), 3, anybody(0, 0, 200))},
		{"five", calm(span(1, 6), 3, anybody(0, 0, 200), anybody(1, 0, 200), anybody(2, 0, 200), anybody(3, 0, 200), anybody(3, 0, 200))}, {"five in one hut", calm(span(6, 6), 3, at(0, 3, 0, 10), at(3, 3, 28, 30), at(0, 3, 48, 50), at(3, 3, 68, 70), at(0, 3, 88, 200))},
		{"no water", calm(span(1, 1), 0, bather(0, 0, 1, 0, 0))}, {"all water", calm(span(1, 1), 0, bather(0, 0, 1, 60, 60))}, {"from the first minute on", late}, {"to the last minute", whole},
	}
}

// ErrArg comes first, whatever else is wrong, and with it there is no other result.
func TestInvalidServes(t *testing.T) {
	for i, x := range invalid() {
		for _, f := range calls() {
			for _, n := range []int{low, -1, 0, 2, 5, high} {
				for _, plan := range [][]int{nil, {n}, {n, n, n, n}, {1, 0, 1, 1}} {
					if e, zero := f.do(x.s, n, plan); e != api.ErrArg || !zero {
						t.Error(i, x.name, f.name, n, plan, e, zero)
					}
				}
			}
		}
	}
}

func TestLimitsAreValid(t *testing.T) {
	for _, x := range limits() {
		many := len(x.s.Bathers)
		for _, f := range calls() {
			if f.bather && many == 0 {
				continue
			}
			if e, _ := f.do(x.s, many-1, make([]int, many)); e != api.OK && e != api.ErrNone {
				t.Error(x.name, f.name, e)
			}
		}
	}
}

// ErrRange comes just beyond bathers and places, for each place of a plan and for one too few or too many, before ErrClash, and of what a function takes alone.
func TestRanges(t *testing.T) {
	for _, s := range []api.Serve{serveS(), clashing(serveS())} {
		for _, f := range calls() {
			for _, n := range []int{low, -1, 4, 5, high} {
				if e, zero := f.do(s, n, []int{1, 0, 1, 1}); (e == api.ErrRange) != f.bather || f.bather && !zero {
					t.Error(f.name, n, e, zero)
				}
			}
			for i, plan := range notPlans() {
				if e, zero := f.do(s, 0, plan); (e == api.ErrRange) != f.plan || f.plan && !zero {
					t.Error(f.name, i, plan, e, zero)
				}
			}
		}
	}
	for _, f := range calls() {
		if e, zero := f.do(calm(span(1, 1), 0), 0, []int{0}); (e == api.ErrRange) != (f.bather || f.plan) || e == api.ErrRange && !zero {
			t.Error(f.name, "nobody", e, zero)
		}
	}
}

// notPlans are no plans of S.
func notPlans() (list [][]int) {
	list = [][]int{nil, {}, {1}, {1, 0, 1}, {1, 0, 1, 1, 1}, {0, 0, 0, 0, 0, 0, 0, 0}, make([]int, 100)}
	for n := range 4 {
		for _, place := range []int{low, -1, 2, 3, 4, high} {
			plan := []int{1, 0, 1, 1}
			plan[n] = place
			list = append(list, plan)
		}
	}
	return list
}

// If the tide has no truth each function has ErrClash, also if nobody bathes, or somebody cannot be served.
func TestClashes(t *testing.T) {
	none := serveN()
	none.Bathers[4].Least, none.Bathers[4].Most = 60, 60
	for _, s := range []api.Serve{serveS(), serveN(), none} {
		checkClash(t, clashing(s))
	}
	nobody := serveS()
	nobody.Bathers = nil
	checkClash(t, clashing(nobody))
}

// P8.7 and R3: nil lists and empty ones are the same, and if nobody bathes there is one plan, which is right.
func TestNobodyBathes(t *testing.T) {
	for _, bathers := range [][]api.ServeBather{nil, {}} {
		for _, plan := range [][]int{nil, {}} {
			s := calm(span(1, 2), 1, bathers...)
			s.Bathers = bathers
			checkCheck(t, s, 0, 0, api.ErrNone, plan...)
			checkMoves(t, s, plan)
			checkCount(t, s, 1)
			checkBest(t, s, 0, api.OK)
			checkHorses(t, s, 0, api.OK)
			checkFirst(t, s, 0, api.ErrNone)
			checkDrop(t, s, 0)
		}
	}
}

// P8.7 and R4: no argument is changed, nor what lies behind it in memory.
func TestArgumentsStay(t *testing.T) {
	for _, s := range []api.Serve{serveS(), serveN(), clashing(serveN()), calm(span(1, 6), 3, anybody(0, 30, 40), anybody(0, 20, 30), anybody(0, 10, 20))} {
		bathers, plan := append(slices.Clone(s.Bathers), bather(1, 2, 3, 4, 5)), []int{1, 0, 1, 0, 1, 7}
		marks, sand, looks := append(slices.Clone(s.Tide.Marks), api.TideMark{Minute: 1}), append(slices.Clone(s.Tide.Sand), span(1, 2)), append(slices.Clone(s.Tide.Looks), api.TideLook{Place: 1})
		sameBathers, samePlan, sameMarks, sameSand, sameLooks := slices.Clone(bathers), slices.Clone(plan), slices.Clone(marks), slices.Clone(sand), slices.Clone(looks)
		s.Tide = api.Tide{Marks: marks[:len(marks)-1], Sand: sand[:len(sand)-1], Looks: looks[:len(looks)-1]}
		s.Bathers = bathers[:len(bathers)-1]
		for _, f := range calls() {
			f.do(s, 0, plan[:len(s.Bathers)])
			if !slices.Equal(bathers, sameBathers) || !slices.Equal(plan, samePlan) || !slices.Equal(marks, sameMarks) || !slices.Equal(sand, sameSand) || !slices.Equal(looks, sameLooks) {
				t.Fatal(f.name, bathers, plan, marks, sand, looks)
			}
		}
	}
}

// P8.7 and R4: each result is new memory, so that what is done to one shows in no other one.
func TestResultsAreNew(t *testing.T) {
	s := serveS()
	for range 3 {
		plan := []int{1, 0, 1, 0}
		moves, _ := serve.Moves(s, plan)
		_, best, _ := serve.Best(s)
		_, fewest, _ := serve.Horses(s)
		checkMoves(t, s, plan, move(11, 0, 2, 3), move(91, 1, 2, 3))
		checkBest(t, s, 1, api.OK, 1, 0, 1, 1)
		checkHorses(t, s, 1, api.OK, 1, 0, 1, 0)
		clear(moves[:cap(moves)])
		clear(best[:cap(best)])
		clear(fewest[:cap(fewest)])
		if !slices.Equal(plan, []int{1, 0, 1, 0}) {
			t.Error(plan)
		}
	}
}

// Nothing is kept from call to call: after a call with an error, or of other serves, all is as it was.
func TestCallsKnowNothingOfOneAnother(t *testing.T) {
	for range 2 {
		TestExamples(t)
		for _, f := range calls() {
			f.do(api.Serve{}, 0, nil)
			f.do(serveN(), -1, []int{2, 2, 2, 2, 2})
			f.do(clashing(serveS()), 0, []int{1, 0, 1, 1})
			f.do(calm(span(1, 6), 3, anybody(0, 30, 40), anybody(0, 20, 30)), 1, []int{3, 0})
		}
	}
}
