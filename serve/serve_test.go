package serve_test

import (
	"slices"
	"testing"

	"dipworks/api"
	"dipworks/serve"
)

func span(lo, hi int) api.Span { return api.Span{Lo: lo, Hi: hi} }

func bather(hut, from, to, least, most int) api.ServeBather {
	return api.ServeBather{Hut: hut, From: from, To: to, Least: least, Most: most}
}

func move(at, place, lo, hi int) api.HorseMove {
	return api.HorseMove{At: at, Place: place, Long: span(lo, hi)}
}

// tideT is that of the examples of chapter 1.
func tideT() api.Tide {
	return api.Tide{
		Marks: []api.TideMark{{Minute: 0, Height: span(10, 12)}, {Minute: 60, Height: span(40, 41)}, {Minute: 120, Height: span(12, 12)}},
		Sand:  []api.Span{span(5, 6), span(20, 20)},
		Looks: []api.TideLook{{Place: 1, Minute: 30, Depth: span(6, 6)}},
	}
}

// serveS and serveN are those of the examples.
func serveS() api.Serve {
	return api.Serve{Tide: tideT(), Soft: span(2, 3), Pace: 1, Bathers: []api.ServeBather{bather(0, 30, 33, 5, 8), bather(0, 8, 11, 5, 9), bather(1, 88, 91, 5, 8), bather(1, 110, 113, 0, 60)}}
}

func serveN() api.Serve {
	s := serveS()
	s.Bathers = append(s.Bathers, bather(0, 12, 14, 5, 8))
	return s
}

// clashing is a serve with a look more that cannot be right.
func clashing(s api.Serve) api.Serve {
	s.Tide.Looks = append(slices.Clone(s.Tide.Looks), api.TideLook{Place: 1, Minute: 30, Depth: span(5, 5)})
	return s
}

// inTideT is one bather by the tide T.
func inTideT(from, to, least, most int) api.Serve {
	return api.Serve{Tide: tideT(), Soft: span(1, 1), Bathers: []api.ServeBather{bather(0, from, to, least, most)}}
}

// still is a tide in which the depth is the same from the minute 0 to 240: at each place as told.
func still(depths ...int) api.Tide {
	t := api.Tide{Marks: []api.TideMark{{Minute: 0, Height: span(60, 60)}, {Minute: 240, Height: span(60, 60)}}}
	for _, d := range depths {
		t.Sand = append(t.Sand, span(60-d, 60-d))
	}
	return t
}

// calm is bathers by a tide in which it is 10, 11, 12 and 13 deep at the four places, so that somebody who wants just as much bathes at this place.
func calm(soft api.Span, pace int, bathers ...api.ServeBather) api.Serve {
	return api.Serve{Tide: still(10, 11, 12, 13), Soft: soft, Pace: pace, Bathers: bathers}
}

// at is a bather who bathes at one place of the calm water, anybody is one who bathes anywhere.
func at(place, hut, from, to int) api.ServeBather {
	return bather(hut, from, to, 10+place, 10+place)
}

func anybody(hut, from, to int) api.ServeBather {
	return bather(hut, from, to, 0, 60)
}

func setOf(elements ...int) (set int) {
	for _, n := range elements {
		set |= 1 << n
	}
	return set
}

func checkRight(t *testing.T, s api.Serve, bather int, places ...int) {
	t.Helper()
	if n, e := serve.Right(s, bather); n != setOf(places...) || e != api.OK {
		t.Error("Right", s, bather, n, e, places)
	}
}

func checkCheck(t *testing.T, s api.Serve, bather, rule int, want api.Errno, plan ...int) {
	t.Helper()
	if n, r, e := serve.Check(s, plan); n != bather || r != rule || e != want {
		t.Error("Check", s, plan, n, r, e, bather, rule, want)
	}
}

func checkCount(t *testing.T, s api.Serve, many int) {
	t.Helper()
	if n, e := serve.Count(s); n != many || e != api.OK {
		t.Error("Count", s, n, e, many)
	}
}

func checkMoves(t *testing.T, s api.Serve, plan []int, moves ...api.HorseMove) {
	t.Helper()
	if l, e := serve.Moves(s, plan); !slices.Equal(l, moves) || e != api.OK {
		t.Error("Moves", s, plan, l, e, moves)
	}
}

func checkBest(t *testing.T, s api.Serve, steps int, want api.Errno, plan ...int) {
	t.Helper()
	if n, l, e := serve.Best(s); n != steps || !slices.Equal(l, plan) || e != want {
		t.Error("Best", s, n, l, e, steps, plan, want)
	}
}

func checkHorses(t *testing.T, s api.Serve, many int, want api.Errno, plan ...int) {
	t.Helper()
	if n, l, e := serve.Horses(s); n != many || !slices.Equal(l, plan) || e != want {
		t.Error("Horses", s, n, l, e, many, plan, want)
	}
}

func checkFirst(t *testing.T, s api.Serve, bather int, want api.Errno) {
	t.Helper()
	if n, e := serve.First(s); n != bather || e != want {
		t.Error("First", s, n, e, bather, want)
	}
}

func checkDrop(t *testing.T, s api.Serve, bathers int) {
	t.Helper()
	if n, e := serve.Drop(s); n != bathers || e != api.OK {
		t.Error("Drop", s, n, e, bathers)
	}
}

func TestExamples(t *testing.T) {
	s, n := serveS(), serveN()
	checkRight(t, s, 0, 1)
	checkRight(t, s, 1, 0)
	checkRight(t, s, 2, 1)
	checkRight(t, s, 3, 0, 1)
	checkRight(t, n, 4)
	checkCheck(t, s, 0, 0, api.ErrNone, 1, 0, 1, 1)
	checkCheck(t, s, 2, api.ServeDepth, api.OK, 1, 0, 0, 1)
	checkCheck(t, s, 0, api.ServeDepth, api.OK, 0, 0, 1, 1)
	checkCount(t, s, 2)
	checkCount(t, n, 0)
	checkMoves(t, s, []int{1, 0, 1, 0}, move(11, 0, 2, 3), move(91, 1, 2, 3))
	checkBest(t, s, 1, api.OK, 1, 0, 1, 1)
	checkHorses(t, s, 1, api.OK, 1, 0, 1, 0)
	checkFirst(t, n, 4, api.OK)
	checkFirst(t, s, 0, api.ErrNone)
	checkDrop(t, n, 16)
	checkDrop(t, s, 0)
}

// P8.1: at each minute from From on that is less than To, in each truth. By the tide T it surely is from 5 to 8 deep at the place 1 from 29 to 33 and from 87 to 91; at the minute 28 it only perhaps is.
func TestRight(t *testing.T) {
	for _, x := range []struct {
		s      api.Serve
		places []int
	}{
		// The stay, from its first minute to the last one.
		{inTideT(29, 34, 5, 8), []int{1}}, {inTideT(28, 34, 5, 8), nil}, {inTideT(29, 35, 5, 8), nil}, {inTideT(29, 30, 5, 8), []int{1}}, {inTideT(33, 34, 5, 8), []int{1}}, {inTideT(28, 29, 5, 8), nil}, {inTideT(34, 35, 5, 8), nil}, {inTideT(87, 92, 5, 8), []int{1}}, {inTideT(86, 92, 5, 8), nil}, {inTideT(87, 93, 5, 8), nil},
		// In between it is deeper.
		{inTideT(30, 90, 5, 8), nil}, {inTideT(29, 92, 5, 8), nil}, {inTideT(33, 88, 5, 8), nil}, {inTideT(30, 90, 5, 21), []int{1}}, {inTideT(30, 90, 5, 20), nil},
		// At the minute 10 it is from 7 to 9 deep at the place 0, and not at all at 1.
		{inTideT(10, 11, 7, 9), []int{0}}, {inTideT(10, 11, 8, 9), nil}, {inTideT(10, 11, 7, 8), nil}, {inTideT(10, 11, 0, 0), []int{1}}, {inTideT(10, 11, 0, 8), []int{1}}, {inTideT(10, 11, 0, 9), []int{0, 1}}, {inTideT(10, 11, 1, 60), []int{0}}, {inTideT(10, 11, 60, 60), nil},
		// As long as there is a tide.
		{inTideT(0, 120, 0, 60), []int{0, 1}}, {inTideT(0, 120, 0, 21), []int{1}}, {inTideT(0, 1, 5, 7), []int{0}}, {inTideT(119, 120, 6, 7), []int{0}},
		// Each place by itself.
		{calm(span(1, 1), 0, anybody(0, 0, 200)), []int{0, 1, 2, 3}}, {calm(span(1, 1), 0, bather(3, 199, 200, 11, 12)), []int{1, 2}}, {calm(span(1, 1), 0, at(3, 0, 0, 1)), []int{3}}, {calm(span(1, 1), 0, bather(0, 0, 1, 14, 60)), nil},
	} {
		checkRight(t, x.s, 0, x.places...)
	}
	// What others do makes no difference.
	s := calm(span(6, 6), 3, at(0, 0, 10, 20), at(3, 0, 10, 20), bather(0, 0, 200, 60, 60))
	checkRight(t, s, 0, 0)
	checkRight(t, s, 1, 3)
	checkRight(t, s, 2)
}

// P8.2: a hut is there in time if it is moved as slowly as can be.
func TestInTime(t *testing.T) {
	for _, soft := range []api.Span{span(1, 1), span(1, 3), span(2, 5), span(6, 6), span(1, 6)} {
		for a := range 4 {
			for b := range 4 {
				far := max(a-b, b-a)
				s := calm(soft, 0, at(a, 2, 10, 20), at(b, 2, 20+soft.Hi*far, 50))
				checkCheck(t, s, 0, 0, api.ErrNone, a, b)
				checkCount(t, s, 1)
				checkBest(t, s, far, api.OK, a, b)
				s.Bathers[1].From--
				checkCheck(t, s, 1, api.ServeLate, api.OK, a, b)
				checkCount(t, s, 0)
				checkBest(t, s, 0, api.ErrNone)
				checkHorses(t, s, 0, api.ErrNone)
				checkFirst(t, s, 1, api.OK)
				checkDrop(t, s, 1)
				// Another hut has nothing to do with it.
				s.Bathers[1].Hut = 3
				checkCheck(t, s, 0, 0, api.ErrNone, a, b)
				checkBest(t, s, 0, api.OK, a, b)
			}
		}
	}
}

// P8.2: the first bather by number, and of this one the first rule; and who comes before goes by From, then by number.
func TestCheck(t *testing.T) {
	mixed := calm(span(1, 2), 0, at(1, 0, 50, 60), at(0, 1, 10, 20), at(0, 0, 30, 40), at(2, 0, 10, 20), at(3, 1, 26, 30))
	for _, x := range []struct {
		s            api.Serve
		bather, rule int
		plan         []int
	}{
		{mixed, 0, 0, []int{1, 0, 0, 2, 3}}, {mixed, 0, 1, []int{0, 0, 0, 2, 3}}, {mixed, 1, 1, []int{1, 1, 0, 2, 3}}, {mixed, 2, 1, []int{1, 0, 1, 2, 3}}, {mixed, 3, 1, []int{1, 0, 0, 3, 3}}, {mixed, 4, 1, []int{1, 0, 0, 2, 2}}, {mixed, 2, 1, []int{1, 0, 3, 3, 0}}, {mixed, 0, 1, []int{3, 3, 3, 3, 2}},
		// Late, though of lesser number; the place is right or not.
		{calm(span(4, 5), 0, at(1, 0, 24, 30), at(0, 0, 10, 20)), 0, 2, []int{1, 0}}, {calm(span(4, 5), 0, at(1, 0, 25, 30), at(0, 0, 10, 20)), 0, 0, []int{1, 0}}, {calm(span(4, 5), 0, at(1, 0, 24, 30), at(0, 0, 10, 20)), 0, 1, []int{3, 0}}, {calm(span(4, 5), 0, at(1, 0, 24, 30), at(0, 0, 10, 20)), 1, 1, []int{1, 1}}, {calm(span(4, 5), 0, at(1, 0, 24, 30), at(0, 0, 10, 20)), 0, 2, []int{1, 3}},
		// Two in one hut at a time: late without being moved.
		{calm(span(1, 1), 0, anybody(0, 10, 20), anybody(0, 19, 30)), 1, 2, []int{2, 2}}, {calm(span(1, 1), 0, anybody(0, 10, 20), anybody(0, 20, 30)), 0, 0, []int{2, 2}}, {calm(span(1, 1), 0, anybody(0, 19, 30), anybody(0, 10, 20)), 0, 2, []int{2, 2}}, {calm(span(1, 1), 0, anybody(0, 10, 20), anybody(1, 19, 30)), 0, 0, []int{2, 2}},
		// Of the same From the lesser number comes first.
		{calm(span(1, 1), 0, anybody(0, 10, 20), anybody(0, 10, 20)), 1, 2, []int{0, 0}}, {calm(span(1, 1), 0, anybody(0, 10, 12), anybody(0, 10, 20)), 1, 2, []int{0, 0}},
		// Only the one before counts: the one before this one stays longer.
		{calm(span(1, 1), 0, anybody(0, 30, 40), anybody(0, 10, 60), anybody(0, 20, 25)), 2, 2, []int{0, 0, 0}}, {calm(span(1, 1), 0, anybody(0, 30, 40), anybody(0, 10, 20), anybody(0, 10, 15)), 2, 2, []int{3, 0, 3}}, {calm(span(1, 1), 0, anybody(0, 17, 40), anybody(0, 10, 20), anybody(0, 10, 15)), 0, 2, []int{3, 3, 0}}, {calm(span(1, 1), 0, anybody(0, 17, 40), anybody(0, 10, 20), anybody(0, 10, 15)), 2, 2, []int{3, 0, 3}},
	} {
		want := api.OK
		if x.rule == 0 {
			want = api.ErrNone
		}
		checkCheck(t, x.s, x.bather, x.rule, want, x.plan...)
	}
}

// P8.2: how many plans are right, over all huts.
func TestCount(t *testing.T) {
	for _, x := range []struct {
		s    api.Serve
		many int
	}{
		{calm(span(1, 1), 0), 1}, {calm(span(1, 1), 0, anybody(0, 0, 200)), 4}, {calm(span(6, 6), 0, anybody(0, 0, 10), anybody(1, 0, 10), anybody(2, 0, 10), anybody(3, 0, 10)), 256},
		// One hut, that can be moved as far as there is time.
		{calm(span(6, 6), 0, anybody(0, 0, 10), anybody(0, 10, 20)), 4}, {calm(span(6, 6), 0, anybody(0, 0, 10), anybody(0, 15, 20)), 4}, {calm(span(6, 6), 0, anybody(0, 0, 10), anybody(0, 16, 20)), 10}, {calm(span(6, 6), 0, anybody(0, 0, 10), anybody(0, 22, 30)), 14}, {calm(span(6, 6), 0, anybody(0, 0, 10), anybody(0, 28, 30)), 16}, {calm(span(6, 6), 0, anybody(0, 16, 20), anybody(0, 0, 10)), 10},
		{calm(span(1, 1), 0, anybody(0, 0, 10), anybody(0, 20, 30), anybody(0, 40, 50), anybody(0, 60, 70), anybody(0, 80, 90)), 1024}, {calm(span(1, 1), 0, anybody(0, 0, 10), anybody(0, 11, 20), anybody(0, 21, 30)), 26}, {calm(span(1, 1), 0, anybody(0, 0, 10), anybody(1, 5, 10), anybody(0, 11, 20), anybody(1, 10, 20)), 40},
		{calm(span(1, 1), 0, at(0, 0, 0, 10), anybody(0, 12, 20), at(3, 0, 21, 30)), 1}, {calm(span(1, 1), 0, at(0, 0, 0, 10), anybody(0, 11, 20), at(3, 0, 21, 30)), 0}, {calm(span(1, 1), 0, at(0, 0, 0, 10), anybody(0, 13, 20), at(3, 0, 22, 30)), 3},
		// Somebody for whom no place is right, or who comes too early.
		{calm(span(1, 1), 0, anybody(0, 0, 10), bather(1, 0, 10, 20, 30)), 0}, {calm(span(1, 1), 0, anybody(0, 0, 10), anybody(0, 9, 20)), 0}, {calm(span(1, 1), 0, anybody(1, 0, 10), anybody(0, 0, 10), anybody(0, 0, 10)), 0},
	} {
		checkCount(t, x.s, x.many)
	}
}

// P8.3: bather by bather by number, of right plans and of others, the hut's number as the Place and each place's time.
func TestMoves(t *testing.T) {
	mixed := calm(span(2, 5), 1, anybody(3, 50, 60), anybody(1, 10, 20), anybody(3, 30, 40), anybody(3, 10, 25), anybody(1, 26, 200))
	same := calm(span(1, 6), 1, anybody(2, 10, 30), anybody(2, 10, 20), anybody(2, 10, 15))
	for _, x := range []struct {
		s     api.Serve
		plan  []int
		moves []api.HorseMove
	}{
		{mixed, []int{0, 0, 0, 0, 0}, nil}, {mixed, []int{1, 0, 0, 0, 0}, []api.HorseMove{move(40, 3, 2, 5)}}, {mixed, []int{0, 0, 1, 0, 0}, []api.HorseMove{move(40, 3, 2, 5), move(25, 3, 2, 5)}}, {mixed, []int{0, 0, 0, 2, 0}, []api.HorseMove{move(25, 3, 4, 10)}}, {mixed, []int{3, 3, 0, 2, 0}, []api.HorseMove{move(40, 3, 6, 15), move(25, 3, 4, 10), move(20, 1, 6, 15)}}, {mixed, []int{1, 2, 1, 1, 2}, nil},
		{same, []int{0, 3, 3}, []api.HorseMove{move(30, 2, 3, 18)}}, {same, []int{0, 0, 1}, []api.HorseMove{move(20, 2, 1, 6)}}, {same, []int{3, 2, 0}, []api.HorseMove{move(30, 2, 1, 6), move(20, 2, 2, 12)}}, {calm(span(6, 6), 3, anybody(0, 0, 200), anybody(0, 199, 200)), []int{3, 0}, []api.HorseMove{move(200, 0, 18, 18)}},
		{calm(span(6, 6), 3), nil, nil}, {calm(span(6, 6), 3, anybody(0, 0, 10), anybody(1, 10, 20), anybody(2, 20, 30), anybody(3, 30, 40)), []int{0, 1, 2, 3}, nil},
	} {
		checkMoves(t, x.s, x.plan, x.moves...)
	}
}

// P8.4 and P8.5: of several plans the first one; and the plan that moves huts least is not the one that needs the fewest horses.
func TestBestAndHorses(t *testing.T) {
	for _, x := range []struct {
		s      api.Serve
		steps  int
		best   []int
		many   int
		horses []int
	}{
		{calm(span(1, 1), 0), 0, nil, 0, nil}, {calm(span(1, 1), 0, anybody(0, 0, 10)), 0, []int{0}, 0, []int{0}}, {calm(span(1, 1), 0, at(2, 0, 0, 10), anybody(0, 20, 30)), 0, []int{2, 2}, 0, []int{2, 2}}, {calm(span(1, 1), 0, anybody(0, 20, 30), at(2, 0, 0, 10), anybody(1, 0, 10)), 0, []int{2, 2, 0}, 0, []int{2, 2, 0}},
		// As far as it is, by way of any place between, and back.
		{calm(span(1, 1), 0, at(0, 0, 0, 10), at(3, 0, 20, 30)), 3, []int{0, 3}, 1, []int{0, 3}}, {calm(span(1, 1), 0, at(0, 0, 0, 10), anybody(0, 20, 30), at(3, 0, 40, 50)), 3, []int{0, 0, 3}, 1, []int{0, 0, 3}}, {calm(span(1, 1), 0, at(0, 0, 0, 10), anybody(0, 12, 20), at(3, 0, 21, 30)), 3, []int{0, 2, 3}, 1, []int{0, 2, 3}}, {calm(span(1, 1), 0, at(3, 0, 0, 10), at(1, 0, 20, 30), at(3, 0, 40, 50)), 4, []int{3, 1, 3}, 1, []int{3, 1, 3}}, {calm(span(1, 1), 0, at(3, 0, 40, 50), at(1, 0, 20, 30), at(3, 0, 0, 10), anybody(1, 0, 1)), 4, []int{3, 1, 3, 0}, 1, []int{3, 1, 3, 0}},
		// One horse does a move after the other one, if it surely comes there in time.
		{calm(span(1, 3), 2, at(0, 0, 0, 10), at(1, 0, 20, 30), at(0, 1, 0, 15), at(1, 1, 20, 30)), 2, []int{0, 1, 0, 1}, 1, []int{0, 1, 0, 1}}, {calm(span(1, 3), 2, at(0, 0, 0, 10), at(1, 0, 20, 30), at(0, 1, 0, 14), at(1, 1, 20, 30)), 2, []int{0, 1, 0, 1}, 2, []int{0, 1, 0, 1}}, {calm(span(1, 3), 1, at(0, 0, 0, 10), at(1, 0, 20, 30), at(0, 1, 0, 14), at(1, 1, 20, 30)), 2, []int{0, 1, 0, 1}, 1, []int{0, 1, 0, 1}}, {calm(span(1, 3), 2, at(0, 0, 0, 10), at(1, 0, 20, 30), at(0, 3, 0, 18), at(1, 3, 30, 40)), 2, []int{0, 1, 0, 1}, 2, []int{0, 1, 0, 1}}, {calm(span(1, 3), 2, at(0, 0, 0, 10), at(1, 0, 20, 30), at(0, 3, 0, 19), at(1, 3, 30, 40)), 2, []int{0, 1, 0, 1}, 1, []int{0, 1, 0, 1}},
		{calm(span(1, 1), 0, at(0, 0, 0, 10), at(1, 0, 20, 30), at(0, 1, 0, 10), at(1, 1, 20, 30), anybody(2, 0, 200)), 2, []int{0, 1, 0, 1, 0}, 2, []int{0, 1, 0, 1, 0}},
		// The last one of a hut can be moved as well: no more horses are needed.
		{calm(span(1, 1), 0, at(2, 0, 0, 10), at(3, 0, 20, 30), anybody(0, 40, 50)), 1, []int{2, 3, 3}, 1, []int{2, 3, 0}}, {serveS(), 1, []int{1, 0, 1, 1}, 1, []int{1, 0, 1, 0}},
		// Two huts are moved by one place each: one horse is enough if one of them is moved in the minute 20, not in 10 as well. The first plan does so at once, or only another one.
		{calm(span(3, 3), 0, at(0, 0, 0, 10), bather(0, 13, 20, 10, 11), at(1, 0, 23, 30), at(1, 1, 0, 10), at(0, 1, 13, 30)), 2, []int{0, 0, 1, 1, 0}, 1, []int{0, 0, 1, 1, 0}}, {calm(span(3, 3), 0, at(1, 0, 0, 10), bather(0, 13, 20, 10, 11), at(0, 0, 23, 30), at(1, 1, 0, 10), at(0, 1, 13, 30)), 2, []int{1, 0, 0, 1, 0}, 1, []int{1, 1, 0, 1, 0}},
	} {
		checkBest(t, x.s, x.steps, api.OK, x.best...)
		checkHorses(t, x.s, x.many, api.OK, x.horses...)
		checkFirst(t, x.s, 0, api.ErrNone)
		checkDrop(t, x.s, 0)
	}
}

// P8.6: the first bather goes by number, the fewest come before the least number.
func TestFirstAndDrop(t *testing.T) {
	nobody := func(hut, from, to int) api.ServeBather { return bather(hut, from, to, 30, 40) }
	for _, x := range []struct {
		s           api.Serve
		first, drop int
	}{
		// No place is right for them.
		{calm(span(1, 1), 0, nobody(0, 0, 10)), 0, 1}, {calm(span(1, 1), 0, anybody(0, 0, 10), nobody(0, 20, 30)), 1, 2}, {calm(span(1, 1), 0, nobody(0, 0, 10), anybody(0, 20, 30), nobody(1, 0, 10)), 0, 5}, {calm(span(1, 1), 0, nobody(0, 0, 10), nobody(0, 20, 30), nobody(1, 0, 10), nobody(2, 0, 10), nobody(3, 0, 10)), 0, 31}, {calm(span(1, 1), 0, anybody(0, 40, 50), anybody(1, 0, 10), anybody(2, 0, 10), anybody(3, 0, 10), nobody(3, 20, 30)), 4, 16},
		// Of two of which each is in the other one's way, the lesser number; of three the one in the middle.
		{calm(span(1, 1), 0, anybody(0, 10, 20), anybody(0, 15, 30)), 1, 1}, {calm(span(1, 1), 0, anybody(0, 15, 30), anybody(0, 10, 20)), 1, 1}, {calm(span(1, 1), 0, anybody(0, 10, 20), anybody(0, 20, 30), anybody(0, 15, 25)), 2, 4}, {calm(span(1, 1), 0, anybody(0, 10, 20), anybody(0, 15, 25), anybody(0, 20, 30)), 1, 2}, {calm(span(1, 1), 0, anybody(0, 10, 60), anybody(0, 15, 25), anybody(0, 30, 40)), 1, 1},
		// Two are fewer than three of lesser numbers.
		{calm(span(1, 1), 0, anybody(0, 10, 20), anybody(0, 30, 40), anybody(0, 50, 60), anybody(0, 0, 200)), 3, 8}, {calm(span(1, 1), 0, anybody(0, 10, 20), anybody(0, 30, 40), anybody(0, 50, 60), anybody(0, 0, 200), anybody(0, 0, 200)), 3, 24}, {calm(span(1, 1), 0, anybody(0, 0, 200), anybody(0, 0, 200), anybody(0, 0, 200)), 1, 3}, {calm(span(1, 1), 0, anybody(0, 0, 10), anybody(0, 0, 10), anybody(1, 0, 10), anybody(1, 5, 10)), 1, 5},
		// Moves take too long: the one between two others is in the way, or is not.
		{calm(span(6, 6), 0, at(0, 0, 0, 10), at(3, 0, 20, 30), at(0, 0, 40, 50)), 1, 2}, {calm(span(6, 6), 0, at(0, 0, 0, 10), at(0, 0, 40, 50), at(3, 0, 20, 30)), 2, 4}, {calm(span(6, 6), 0, at(0, 0, 0, 10), at(3, 0, 20, 30), at(3, 0, 40, 50)), 1, 1}, {calm(span(3, 3), 0, at(0, 0, 0, 10), anybody(0, 15, 20), at(3, 0, 23, 30)), 2, 1}, {calm(span(3, 3), 0, at(0, 0, 0, 10), at(3, 0, 18, 30), anybody(0, 15, 16)), 1, 1},
	} {
		checkFirst(t, x.s, x.first, api.OK)
		checkDrop(t, x.s, x.drop)
		checkCount(t, x.s, 0)
		checkBest(t, x.s, 0, api.ErrNone)
		checkHorses(t, x.s, 0, api.ErrNone)
	}
}
