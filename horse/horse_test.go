package horse_test

import (
	"math"
	"math/bits"
	"slices"
	"testing"

	"dipworks/api"
	"dipworks/horse"
)

func span(lo, hi int) api.Span { return api.Span{Lo: lo, Hi: hi} }

func move(at, place, lo, hi int) api.HorseMove {
	return api.HorseMove{At: at, Place: place, Long: span(lo, hi)}
}

func horses(pace int, moves ...api.HorseMove) api.Horses {
	return api.Horses{Pace: pace, Moves: moves}
}

func plan(list ...int) []int { return list }

// horsesH is the horses H of the examples.
func horsesH() api.Horses {
	return horses(1, move(0, 0, 4, 6), move(8, 3, 4, 4), move(10, 0, 5, 6), move(16, 6, 3, 3))
}

// together is so many moves of which no one can follow another one.
func together(moves int) api.Horses {
	return horses(0, slices.Repeat([]api.HorseMove{move(5, 1, 1, 1)}, moves)...)
}

// row is so many moves of which each one can follow each one before it, and not a minute more.
func row(moves int) api.Horses {
	h := horses(2)
	for i := range moves {
		h.Moves = append(h.Moves, move(25*i, 10*(i%2), 5, 5))
	}
	return h
}

func TestExamples(t *testing.T) {
	for _, x := range []struct{ first, second, want int }{{0, 1, 1}, {0, 2, 2}, {1, 2, 0}, {1, 0, 0}} {
		if n, e := horse.Follows(horsesH(), x.first, x.second); n != x.want || e != api.OK {
			t.Error("Follows", x, n, e)
		}
	}
	for _, x := range []struct {
		plan          []int
		sure          bool
		first, second int
		e             api.Errno
	}{{plan(0, 1, 0, 1), true, 0, 0, api.ErrNone}, {plan(0, 0, 1, 0), true, 0, 1, api.OK}, {plan(0, 0, 1, 0), false, 0, 0, api.ErrNone}, {plan(2, 2, 2, 2), false, 1, 2, api.OK}} {
		if a, b, e := horse.Check(horsesH(), x.plan, x.sure); a != x.first || b != x.second || e != x.e {
			t.Error("Check", x, a, b, e)
		}
	}
	for _, x := range []struct {
		sure bool
		plan []int
		set  int
	}{{true, plan(0, 1, 0, 1), 3}, {false, plan(0, 0, 1, 0), 6}} {
		if n, l, e := horse.Fewest(horsesH(), x.sure); n != 2 || !slices.Equal(l, x.plan) || e != api.OK {
			t.Error("Fewest", x, n, l, e)
		}
		if n, e := horse.Proof(horsesH(), x.sure); n != x.set || e != api.OK {
			t.Error("Proof", x, n, e)
		}
	}
	if l, e := horse.Late(horsesH(), plan(0, 0, 1, 0)); !slices.Equal(l, []api.Span{span(0, 0), span(0, 1), span(0, 0), span(0, 0)}) || e != api.OK {
		t.Error("Late", l, e)
	}
	for _, x := range []struct {
		minute int
		want   api.Span
	}{{5, span(0, 1)}, {11, span(2, 2)}, {220, span(0, 0)}} {
		if s, e := horse.Busy(horsesH(), x.minute); s != x.want || e != api.OK {
			t.Error("Busy", x, s, e)
		}
	}
	for _, x := range []struct {
		many int
		sure bool
		want int
	}{{1, true, 5}, {1, false, 4}, {2, true, 0}, {0, true, 15}} {
		if n, e := horse.Leave(horsesH(), x.many, x.sure); n != x.want || e != api.OK {
			t.Error("Leave", x, n, e)
		}
	}
}

// Example 2 of DOC.md.
func TestExampleOfTheDocument(t *testing.T) {
	n, l, _ := horse.Fewest(horsesH(), true)
	if n != 2 || l[0] != l[2] || l[1] != l[3] || l[0] == l[1] {
		t.Error(n, l)
	}
	if n, _ := horse.Follows(horsesH(), 0, 1); n == api.HorseAlways {
		t.Error(n)
	}
	if n, _ := horse.Follows(horsesH(), 1, 0); n == api.HorseAlways {
		t.Error(n)
	}
}

// P2.1: to the minute.
func TestFollows(t *testing.T) {
	for i, x := range []struct {
		pace        int
		first, then api.HorseMove
		want        int
	}{
		{0, move(0, 0, 5, 5), move(5, 30, 1, 1), api.HorseAlways},
		{0, move(0, 0, 5, 5), move(4, 0, 1, 1), api.HorseNever},
		{0, move(0, 0, 5, 6), move(5, 0, 1, 1), api.HorsePerhaps},
		{0, move(0, 0, 5, 6), move(6, 0, 1, 1), api.HorseAlways},
		{0, move(0, 0, 5, 6), move(4, 0, 1, 1), api.HorseNever},
		// Only how long the first one takes matters.
		{0, move(0, 0, 5, 5), move(5, 0, 1, 20), api.HorseAlways},
		// It walks both ways.
		{3, move(10, 30, 1, 1), move(101, 0, 1, 1), api.HorseAlways},
		{3, move(10, 30, 1, 1), move(100, 0, 1, 1), api.HorseNever},
		{3, move(10, 0, 1, 1), move(101, 30, 1, 1), api.HorseAlways},
		{3, move(10, 0, 1, 1), move(100, 30, 1, 1), api.HorseNever},
		{2, move(10, 7, 3, 9), move(25, 10, 1, 1), api.HorseAlways},
		{2, move(10, 7, 3, 9), move(24, 10, 1, 1), api.HorsePerhaps},
		{2, move(10, 7, 3, 9), move(19, 10, 1, 1), api.HorsePerhaps},
		{2, move(10, 7, 3, 9), move(18, 10, 1, 1), api.HorseNever},
		{0, move(180, 0, 1, 20), move(200, 0, 20, 20), api.HorseAlways},
		{0, move(181, 0, 1, 20), move(200, 0, 20, 20), api.HorsePerhaps},
		{0, move(200, 0, 1, 20), move(200, 0, 20, 20), api.HorseNever},
		{0, move(50, 0, 1, 1), move(0, 0, 1, 1), api.HorseNever},
	} {
		h := horses(x.pace, move(0, 0, 1, 1), x.then, x.first)
		if n, e := horse.Follows(h, 2, 1); n != x.want || e != api.OK {
			t.Error(i, n, e)
		}
		if n, e := horse.Follows(h, 2, 2); n != api.HorseNever || e != api.OK {
			t.Error(i, "itself", n, e)
		}
	}
	if api.HorseNever != 0 || api.HorsePerhaps != 1 || api.HorseAlways != 2 {
		t.Error("the chapter's numbers")
	}
}

// P2.2: the least first move, and of this the least second one; numbers of horses need not come in order.
func TestCheck(t *testing.T) {
	four := horses(1, move(30, 0, 2, 4), move(20, 0, 10, 10), move(10, 0, 5, 5), move(12, 9, 20, 20))
	for i, x := range []struct {
		h             api.Horses
		plan          []int
		sure          bool
		first, second int
		e             api.Errno
	}{
		{four, plan(0, 0, 0, 1), true, 0, 0, api.ErrNone},
		{four, plan(6, 6, 6, 0), true, 0, 0, api.ErrNone},
		{four, plan(0, 0, 0, 0), true, 0, 3, api.OK},
		{four, plan(0, 6, 6, 6), true, 1, 3, api.OK},
		{four, plan(0, 1, 6, 6), true, 2, 3, api.OK},
		{together(7), plan(0, 1, 2, 3, 4, 5, 6), true, 0, 0, api.ErrNone},
		{together(7), plan(6, 5, 4, 3, 2, 1, 0), false, 0, 0, api.ErrNone},
		{together(7), plan(0, 1, 2, 3, 4, 5, 0), false, 0, 6, api.OK},
		{together(7), plan(0, 1, 2, 3, 2, 1, 0), false, 0, 6, api.OK},
		{together(7), plan(0, 1, 2, 2, 1, 1, 6), true, 1, 4, api.OK},
		{row(7), plan(3, 3, 3, 3, 3, 3, 3), true, 0, 0, api.ErrNone},
		{horses(0), nil, true, 0, 0, api.ErrNone},
		{horses(0), plan(), false, 0, 0, api.ErrNone},
		// By sure the longest time counts, without it the shortest one.
		{horses(0, move(0, 0, 3, 5), move(4, 0, 1, 1)), plan(1, 1), true, 0, 1, api.OK},
		{horses(0, move(0, 0, 3, 5), move(4, 0, 1, 1)), plan(1, 1), false, 0, 0, api.ErrNone},
		{horses(0, move(0, 0, 3, 5), move(5, 0, 1, 1)), plan(1, 1), true, 0, 0, api.ErrNone},
		{horses(0, move(0, 0, 3, 5), move(2, 0, 1, 1)), plan(1, 1), false, 0, 1, api.OK},
	} {
		if a, b, e := horse.Check(x.h, x.plan, x.sure); a != x.first || b != x.second || e != x.e {
			t.Error(i, a, b, e)
		}
	}
}

// P2.3, P2.4 and P2.7.
func TestFewestProofAndLeave(t *testing.T) {
	// Two moves that one horse can do, and two that another one can: a horse that takes what comes first takes too much.
	crossed := horses(0, move(0, 0, 4, 4), move(0, 0, 6, 6), move(4, 0, 9, 9), move(6, 0, 9, 9))
	// 1 can follow 0, 3 can follow 1 and 2, and what perhaps can is more.
	perhaps := horses(1, move(0, 0, 1, 5), move(5, 0, 1, 5), move(6, 2, 2, 2), move(10, 0, 1, 1))
	backwards := horses(0, move(9, 0, 1, 1), move(6, 0, 3, 3), move(3, 0, 3, 3), move(0, 0, 3, 3))
	for i, x := range []struct {
		h     api.Horses
		sure  bool
		many  int
		plan  []int
		proof int
		leave []int // by how many horses there are
	}{
		{horses(3), true, 0, nil, 0, []int{0, 0, 0, 0, 0, 0, 0, 0}},
		{horses(0, move(200, 30, 20, 20)), true, 1, plan(0), 1, []int{1, 0, 0, 0, 0, 0, 0, 0}},
		{together(7), true, 7, plan(0, 1, 2, 3, 4, 5, 6), 127, []int{127, 63, 31, 15, 7, 3, 1, 0}},
		{together(7), false, 7, plan(0, 1, 2, 3, 4, 5, 6), 127, []int{127, 63, 31, 15, 7, 3, 1, 0}},
		{row(7), true, 1, plan(0, 0, 0, 0, 0, 0, 0), 1, []int{127, 0, 0}},
		{backwards, true, 1, plan(0, 0, 0, 0), 1, []int{15, 0}},
		{crossed, true, 2, plan(0, 1, 0, 1), 3, []int{15, 5, 0}},
		{perhaps, true, 2, plan(0, 0, 1, 0), 5, []int{15, 4, 0}},
		{perhaps, false, 2, plan(0, 0, 1, 0), 6, []int{15, 2, 0}},
		{horsesH(), true, 2, plan(0, 1, 0, 1), 3, []int{15, 5, 0, 0, 0, 0, 0, 0}},
		{horsesH(), false, 2, plan(0, 0, 1, 0), 6, []int{15, 4, 0, 0, 0, 0, 0, 0}},
	} {
		if n, l, e := horse.Fewest(x.h, x.sure); n != x.many || !slices.Equal(l, x.plan) || e != api.OK {
			t.Error(i, "Fewest", n, l, e)
		}
		if n, e := horse.Proof(x.h, x.sure); n != x.proof || e != api.OK {
			t.Error(i, "Proof", n, e)
		}
		for many, want := range x.leave {
			if n, e := horse.Leave(x.h, many, x.sure); n != want || e != api.OK {
				t.Error(i, "Leave", many, n, e)
			}
		}
	}
}

// P2.5.
func TestLate(t *testing.T) {
	for i, x := range []struct {
		h    api.Horses
		plan []int
		want []api.Span
	}{
		{horses(1), nil, nil},
		{horses(1), plan(), nil},
		{together(3), plan(0, 0, 0), []api.Span{span(0, 0), span(1, 1), span(2, 2)}},
		{together(3), plan(6, 0, 6), []api.Span{span(0, 0), span(0, 0), span(1, 1)}},
		{row(4), plan(1, 1, 1, 1), []api.Span{span(0, 0), span(0, 0), span(0, 0), span(0, 0)}},
		// Horses do what comes first in time, whatever its number.
		{horses(0, move(6, 0, 2, 3), move(5, 0, 4, 6)), plan(0, 0), []api.Span{span(3, 5), span(0, 0)}},
		// At the first move a horse is in time, however far away it is.
		{horses(3, move(0, 30, 1, 1)), plan(4), []api.Span{span(0, 0)}},
		// A horse that is late comes later to the next move, too, unless it has time to make up for it.
		{horses(2, move(0, 0, 5, 8), move(6, 2, 1, 2), move(10, 0, 3, 3), move(30, 0, 1, 1)), plan(0, 0, 0, 0), []api.Span{span(0, 0), span(3, 6), span(4, 8), span(0, 0)}},
		// It waits if it comes too early, so that how long the move before takes makes no difference.
		{horses(1, move(0, 0, 1, 20), move(30, 4, 5, 5), move(31, 0, 1, 1)), plan(2, 2, 2), []api.Span{span(0, 0), span(0, 0), span(8, 8)}},
		// As late as can be: 120 minutes of moves, and six long ways.
		{horses(3, move(0, 0, 1, 20), move(0, 30, 1, 20), move(0, 0, 1, 20), move(0, 30, 1, 20), move(0, 0, 1, 20), move(0, 30, 1, 20), move(0, 0, 1, 20)), plan(6, 6, 6, 6, 6, 6, 6), []api.Span{span(0, 0), span(91, 110), span(182, 220), span(273, 330), span(364, 440), span(455, 550), span(546, 660)}},
	} {
		if l, e := horse.Late(x.h, x.plan); !slices.Equal(l, x.want) || e != api.OK {
			t.Error(i, l, e)
		}
	}
}

// P2.6: to the minute.
func TestBusy(t *testing.T) {
	h := horses(3, move(10, 0, 2, 4), move(10, 30, 4, 4), move(200, 0, 20, 20))
	for minute := range 221 {
		want := span(0, 0)
		switch {
		case minute == 10 || minute == 11:
			want = span(2, 2)
		case minute == 12 || minute == 13:
			want = span(1, 2)
		case minute >= 200 && minute < 220:
			want = span(1, 1)
		}
		if s, e := horse.Busy(h, minute); s != want || e != api.OK {
			t.Error(minute, s, e)
		}
	}
	if s, e := horse.Busy(horses(0), 0); s != span(0, 0) || e != api.OK {
		t.Error(s, e)
	}
	if s, e := horse.Busy(together(7), 5); s != span(7, 7) || e != api.OK {
		t.Error(s, e)
	}
}

// named is horses with a name.
type named struct {
	name string
	h    api.Horses
}

// invalid are horses that are not valid, each for one reason.
func invalid() []named {
	const low, high = math.MinInt, math.MaxInt
	list := []named{
		{"pace below 0", horses(-1)}, {"least pace", horses(low)}, {"pace 4", horses(api.HorsePace + 1)}, {"greatest pace", horses(high)},
		{"pace below 0, with moves", horses(-1, move(0, 0, 1, 1))}, {"eight moves", together(8)},
	}
	for _, x := range []struct {
		name string
		m    api.HorseMove
	}{
		{"at below 0", move(-1, 0, 1, 1)}, {"least at", move(low, 0, 1, 1)}, {"at 201", move(201, 0, 1, 1)}, {"greatest at", move(high, 0, 1, 1)},
		{"place below 0", move(0, -1, 1, 1)}, {"least place", move(0, low, 1, 1)}, {"place 31", move(0, 31, 1, 1)}, {"greatest place", move(0, high, 1, 1)},
		{"no minutes", move(0, 0, 0, 0)}, {"perhaps no minutes", move(0, 0, 0, 1)}, {"long below 0", move(0, 0, -1, 5)}, {"least long", move(0, 0, low, 5)},
		{"long 21", move(0, 0, 1, 21)}, {"surely long 21", move(0, 0, 21, 21)}, {"greatest long", move(0, 0, 1, high)}, {"long of no number", move(0, 0, 5, 4)},
		{"widest long", move(0, 0, low, high)}, {"long turned round", move(0, 0, high, low)}, {"no move at all", api.HorseMove{}},
	} {
		list = append(list, named{x.name, horses(1, x.m)}, named{x.name + ", the last one", horses(1, move(0, 0, 1, 1), x.m)}, named{x.name + ", the first one", horses(1, x.m, move(0, 0, 1, 1))})
	}
	return list
}

// limits are horses that go as far as they may.
func limits() []named {
	return []named{
		{"nothing", api.Horses{}}, {"empty", horses(0, []api.HorseMove{}...)}, {"pace 3", horses(3)}, {"seven moves", together(7)},
		{"at 0", horses(3, move(0, 0, 1, 1))}, {"at 200", horses(3, move(200, 0, 1, 1))}, {"place 30", horses(3, move(0, 30, 1, 1))},
		{"long 1", horses(0, move(0, 0, 1, 1))}, {"long 20", horses(0, move(0, 0, 20, 20))}, {"long 1 to 20", horses(0, move(0, 0, 1, 20))},
	}
}

// argument is what a function takes besides horses.
type argument int

const (
	nothing argument = iota
	twoMoves
	aPlan
	aMinute
	aMany
)

// call is a call of one of the functions: its error, and whether all other results are zero values.
type call struct {
	name string
	uses argument
	do   func(h api.Horses, n, m int, plan []int, sure bool) (api.Errno, bool)
}

func calls() []call {
	return []call{
		{"Follows", twoMoves, func(h api.Horses, n, m int, _ []int, _ bool) (api.Errno, bool) {
			x, e := horse.Follows(h, n, m)
			return e, x == 0
		}},
		{"Check", aPlan, func(h api.Horses, _, _ int, plan []int, sure bool) (api.Errno, bool) {
			a, b, e := horse.Check(h, plan, sure)
			return e, a == 0 && b == 0
		}},
		{"Fewest", nothing, func(h api.Horses, _, _ int, _ []int, sure bool) (api.Errno, bool) {
			n, l, e := horse.Fewest(h, sure)
			return e, n == 0 && len(l) == 0
		}},
		{"Proof", nothing, func(h api.Horses, _, _ int, _ []int, sure bool) (api.Errno, bool) {
			n, e := horse.Proof(h, sure)
			return e, n == 0
		}},
		{"Late", aPlan, func(h api.Horses, _, _ int, plan []int, _ bool) (api.Errno, bool) {
			l, e := horse.Late(h, plan)
			return e, len(l) == 0
		}},
		{"Busy", aMinute, func(h api.Horses, n, _ int, _ []int, _ bool) (api.Errno, bool) {
			s, e := horse.Busy(h, n)
			return e, s == api.Span{}
		}},
		{"Leave", aMany, func(h api.Horses, n, _ int, _ []int, sure bool) (api.Errno, bool) {
			x, e := horse.Leave(h, n, sure)
			return e, x == 0
		}},
	}
}

// ErrArg comes first, whatever else is wrong, and with it there is no other result.
func TestInvalidHorses(t *testing.T) {
	for _, x := range invalid() {
		right := make([]int, len(x.h.Moves))
		for _, f := range calls() {
			for _, n := range []int{math.MinInt, -1, 0, 1, math.MaxInt} {
				for _, l := range [][]int{nil, {0}, {9}, right, {-1, 7}} {
					for _, sure := range []bool{true, false} {
						if e, zero := f.do(x.h, n, n, l, sure); e != api.ErrArg || !zero {
							t.Fatal(x.name, f.name, n, l, e, zero)
						}
					}
				}
			}
		}
	}
}

func TestLimitsAreValid(t *testing.T) {
	for _, x := range limits() {
		for _, f := range calls() {
			if f.uses == twoMoves && len(x.h.Moves) == 0 {
				continue
			}
			e, _ := f.do(x.h, 0, 0, make([]int, len(x.h.Moves)), true)
			if e != api.OK && (f.name != "Check" || e != api.ErrNone) {
				t.Error(x.name, f.name, e)
			}
		}
	}
}

// numbers are arguments of one function, and whether they are valid for horses with two moves.
type numbers struct {
	n, m int
	ok   bool
}

func bounds(uses argument) []numbers {
	const low, high = math.MinInt, math.MaxInt
	switch uses {
	case twoMoves:
		return []numbers{{0, 1, true}, {1, 0, true}, {1, 1, true}, {-1, 0, false}, {2, 0, false}, {low, 0, false}, {high, 0, false}, {0, -1, false}, {0, 2, false}, {0, low, false}, {0, high, false}, {2, -1, false}}
	case aMinute:
		return []numbers{{0, 0, true}, {220, 0, true}, {-1, 0, false}, {221, 0, false}, {low, 0, false}, {high, 0, false}}
	case aMany:
		return []numbers{{0, 0, true}, {7, 0, true}, {-1, 0, false}, {8, 0, false}, {low, 0, false}, {high, 0, false}}
	}
	return nil
}

// ErrRange comes just beyond the bounds of each argument.
func TestRanges(t *testing.T) {
	const low, high = math.MinInt, math.MaxInt
	two := horses(1, move(0, 0, 1, 1), move(9, 0, 1, 1))
	for _, f := range calls() {
		for _, x := range bounds(f.uses) {
			if e, zero := f.do(two, x.n, x.m, nil, true); x.ok != (e == api.OK) || !x.ok && (e != api.ErrRange || !zero) {
				t.Error(f.name, x, e, zero)
			}
		}
		if f.uses != aPlan {
			continue
		}
		for _, l := range [][]int{nil, {}, {0}, {0, 0, 0}, {-1, 0}, {0, -1}, {7, 0}, {0, 7}, {low, 0}, {0, high}, {high, low}} {
			for _, sure := range []bool{true, false} {
				if e, zero := f.do(two, 0, 0, l, sure); e != api.ErrRange || !zero {
					t.Error(f.name, l, e, zero)
				}
			}
		}
		for _, l := range [][]int{{0, 0}, {6, 6}, {0, 6}} {
			if e, _ := f.do(two, 0, 0, l, true); e != api.OK && (f.name != "Check" || e != api.ErrNone) {
				t.Error(f.name, l, e)
			}
		}
		if e, zero := f.do(horses(0), 0, 0, plan(0), true); e != api.ErrRange || !zero {
			t.Error(f.name, "no moves, and a plan for one", e, zero)
		}
		if e, zero := f.do(together(7), 0, 0, make([]int, 8), true); e != api.ErrRange || !zero {
			t.Error(f.name, "seven moves, and a plan for eight", e, zero)
		}
	}
	if _, e := horse.Follows(horses(0), 0, 0); e != api.ErrRange {
		t.Error("no moves", e)
	}
}

// P2.8 and R4: no argument is changed, and a result is new memory.
func TestMemory(t *testing.T) {
	h, given := horses(1, move(9, 3, 1, 5), move(4, 0, 2, 2), move(0, 7, 1, 9), move(4, 0, 2, 2)), plan(3, 0, 3, 0)
	same, samePlan := slices.Clone(h.Moves), slices.Clone(given)
	for _, f := range calls() {
		f.do(h, 1, 0, given, true)
		f.do(h, 1, 0, given, false)
		if !slices.Equal(h.Moves, same) || !slices.Equal(given, samePlan) {
			t.Fatal(f.name, h, given)
		}
	}
	_, l, _ := horse.Fewest(h, true)
	want := slices.Clone(l)
	for i := range l {
		l[i] = 99
	}
	if _, l, _ := horse.Fewest(h, true); !slices.Equal(l, want) {
		t.Error(l)
	}
	s, _ := horse.Late(h, given)
	wantLate := slices.Clone(s)
	for i := range s {
		s[i] = span(99, 99)
	}
	if s, _ := horse.Late(h, given); !slices.Equal(s, wantLate) {
		t.Error(s)
	}
}

// Nothing is kept from call to call: after a call with an error, or with other horses, all is as it was.
func TestCallsKnowNothingOfOneAnother(t *testing.T) {
	for range 2 {
		TestExamples(t)
		if n, l, e := horse.Fewest(together(8), true); n != 0 || len(l) != 0 || e != api.ErrArg {
			t.Error(n, l, e)
		}
		if n, _ := horse.Proof(together(7), true); bits.OnesCount(uint(n)) != 7 {
			t.Error(n)
		}
	}
}
