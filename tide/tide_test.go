package tide_test

import (
	"math"
	"slices"
	"testing"

	"dipworks/api"
	"dipworks/tide"
)

func span(lo, hi int) api.Span { return api.Span{Lo: lo, Hi: hi} }

func mark(minute, lo, hi int) api.TideMark {
	return api.TideMark{Minute: minute, Height: span(lo, hi)}
}

func look(place, minute, lo, hi int) api.TideLook {
	return api.TideLook{Place: place, Minute: minute, Depth: span(lo, hi)}
}

// tideT is the tide T of the examples, with more looks if some are given; tideN is the tide N.
func tideT(more ...api.TideLook) api.Tide {
	return api.Tide{
		Marks: []api.TideMark{mark(0, 10, 12), mark(60, 40, 41), mark(120, 12, 12)},
		Sand:  []api.Span{span(5, 6), span(20, 20)},
		Looks: append([]api.TideLook{look(1, 30, 6, 6)}, more...),
	}
}

func tideN() api.Tide { return tideT(look(1, 30, 5, 5)) }

// twoMarks is a tide between two marks, with one place where the sand lies at 0.
func twoMarks(a, b api.TideMark) api.Tide {
	return api.Tide{Marks: []api.TideMark{a, b}, Sand: []api.Span{span(0, 0)}}
}

// unsure is a tide of which nothing is known exactly, and in which looks bind marks and sand together.
func unsure(looks ...api.TideLook) api.Tide {
	return api.Tide{
		Marks: []api.TideMark{mark(10, 4, 6), mark(22, 7, 9)},
		Sand:  []api.Span{span(2, 4), span(5, 5), span(0, 1)},
		Looks: looks,
	}
}

func TestExamples(t *testing.T) {
	for _, x := range []struct {
		minute int
		want   api.Span
	}{{30, span(26, 26)}, {0, span(11, 12)}, {10, span(13, 14)}, {45, span(35, 36)}, {90, span(26, 26)}} {
		if s, e := tide.Height(tideT(), x.minute); s != x.want || e != api.OK {
			t.Error("Height", x.minute, s, e)
		}
	}
	for _, x := range []struct {
		place, minute int
		want          api.Span
	}{{0, 10, span(7, 9)}, {1, 10, span(0, 0)}, {1, 30, span(6, 6)}} {
		if s, e := tide.Depth(tideT(), x.place, x.minute); s != x.want || e != api.OK {
			t.Error("Depth", x.place, x.minute, s, e)
		}
	}
	if s, e := tide.Sand(tideT(), 0); s != span(5, 6) || e != api.OK {
		t.Error("Sand", s, e)
	}
	if l, e := tide.Served(tideT(), 1, 5, 8); !slices.Equal(l, []api.Span{span(29, 33), span(87, 91)}) || e != api.OK {
		t.Error("Served", l, e)
	}
	if n, e := tide.First(tideT(), 1, 5, 0, true); n != 29 || e != api.OK {
		t.Error("First, sure", n, e)
	}
	if n, e := tide.First(tideT(), 1, 5, 0, false); n != 28 || e != api.OK {
		t.Error("First, not sure", n, e)
	}
	if a, b, e := tide.Places(tideT(), 30, 5, 8); a != 2 || b != 2 || e != api.OK {
		t.Error("Places", a, b, e)
	}
	if n, e := tide.Count(tideT()); n != 6 || e != api.OK {
		t.Error("Count of T", n, e)
	}
	if n, e := tide.Count(tideN()); n != 0 || e != api.OK {
		t.Error("Count of N", n, e)
	}
	if p, n, e := tide.Next(tideT(), 0); p != 0 || n != 3 || e != api.OK {
		t.Error("Next", p, n, e)
	}
	if n, e := tide.Clash(tideN()); n != 3 || e != api.OK {
		t.Error("Clash of N", n, e)
	}
	if n, e := tide.Clash(tideT()); n != 0 || e != api.ErrNone {
		t.Error("Clash of T", n, e)
	}
	if s, e := tide.Height(tideN(), 30); s != span(0, 0) || e != api.ErrClash {
		t.Error("Height of N", s, e)
	}
}

// P1.1, and how high the water stands.
func TestHeightMovesByTwelfths(t *testing.T) {
	for i, x := range []struct {
		tide api.Tide
		want []int
	}{
		{twoMarks(mark(0, 0, 0), mark(6, 12, 12)), []int{0, 1, 3, 6, 9, 11, 12}},
		{twoMarks(mark(0, 12, 12), mark(6, 0, 0)), []int{12, 11, 9, 6, 3, 1, 0}},
		{twoMarks(mark(7, 0, 0), mark(19, 24, 24)), []int{0, 1, 2, 4, 6, 9, 12, 15, 18, 20, 22, 23, 24}},
		// In 7 minutes the water moves by parts of 84, and each height is rounded down.
		{twoMarks(mark(0, 0, 0), mark(7, 60, 60)), []int{0, 4, 12, 23, 36, 47, 55, 60}},
		// Falling water is rounded down, too, and not toward the first mark.
		{twoMarks(mark(0, 1, 1), mark(6, 0, 0)), []int{1, 0, 0, 0, 0, 0, 0}},
		{twoMarks(mark(0, 0, 0), mark(6, 1, 1)), []int{0, 0, 0, 0, 0, 0, 1}},
	} {
		from := x.tide.Marks[0].Minute
		for n, want := range x.want {
			if s, e := tide.Height(x.tide, from+n); s != span(want, want) || e != api.OK {
				t.Error(i, from+n, s, e, "not", want)
			}
		}
	}
}

func TestHeightAtMarks(t *testing.T) {
	x := api.Tide{
		Marks: []api.TideMark{mark(3, 0, 2), mark(9, 58, 60), mark(100, 7, 8), mark(240, 30, 30)},
		Sand:  []api.Span{span(0, 0)},
	}
	for _, m := range x.Marks {
		if s, e := tide.Height(x, m.Minute); s != m.Height || e != api.OK {
			t.Error(m, s, e)
		}
	}
}

func TestDepthIsNeverBelowZero(t *testing.T) {
	x := twoMarks(mark(0, 9, 11), mark(6, 9, 11))
	x.Sand = []api.Span{span(10, 10), span(11, 12), span(12, 13)}
	for place, want := range []api.Span{span(0, 1), span(0, 0), span(0, 0)} {
		if s, e := tide.Depth(x, place, 3); s != want || e != api.OK {
			t.Error(place, s, e)
		}
	}
}

func TestLooksBindMarksAndSand(t *testing.T) {
	// At the minute 10 it is 2 deep at the place 0: water 4 and sand 2, 5 and 3, or 6 and 4.
	x := unsure(look(0, 10, 2, 2))
	if s, _ := tide.Height(x, 10); s != span(4, 6) {
		t.Error(s)
	}
	if s, _ := tide.Sand(x, 0); s != span(2, 4) {
		t.Error(s)
	}
	// The place 1 is dry just if the water stands at most 5 high.
	x = unsure(look(0, 10, 2, 2), look(1, 10, 0, 0))
	if s, _ := tide.Height(x, 10); s != span(4, 5) {
		t.Error(s)
	}
	if s, _ := tide.Sand(x, 0); s != span(2, 3) {
		t.Error(s)
	}
	// A look at one minute tells of another one: of the same mark, but not of the other one.
	if s, _ := tide.Height(x, 22); s != span(7, 9) {
		t.Error(s)
	}
	if s, _ := tide.Depth(x, 2, 10); s != span(3, 5) {
		t.Error(s)
	}
}

func TestLookThatPerhapsFoundNoWater(t *testing.T) {
	x := twoMarks(mark(0, 9, 11), mark(6, 9, 11))
	x.Sand = []api.Span{span(9, 11)}
	for _, y := range []struct {
		lo, hi, count int
	}{{0, 0, 18}, {0, 1, 24}, {1, 1, 6}, {1, 2, 9}, {2, 2, 3}, {3, 60, 0}, {0, 60, 27}} {
		x.Looks = []api.TideLook{look(0, 0, y.lo, y.hi)}
		if n, e := tide.Count(x); n != y.count || e != api.OK {
			t.Error(y, n, e)
		}
	}
}

// P1.2.
func TestServed(t *testing.T) {
	rise := twoMarks(mark(0, 0, 0), mark(6, 12, 12))
	upAndDown := api.Tide{
		Marks: []api.TideMark{mark(0, 0, 0), mark(6, 12, 12), mark(12, 0, 0), mark(18, 12, 12)},
		Sand:  []api.Span{span(0, 0), span(60, 60)},
	}
	for i, x := range []struct {
		tide               api.Tide
		place, least, most int
		want               []api.Span
	}{
		{rise, 0, 0, 60, []api.Span{span(0, 6)}},
		{rise, 0, 1, 3, []api.Span{span(1, 2)}},
		{rise, 0, 12, 12, []api.Span{span(6, 6)}},
		{rise, 0, 0, 0, []api.Span{span(0, 0)}},
		{rise, 0, 13, 60, nil},
		{rise, 0, 4, 5, nil},
		{rise, 0, 9, 3, nil},
		{upAndDown, 0, 9, 12, []api.Span{span(4, 8), span(16, 18)}},
		{upAndDown, 0, 0, 0, []api.Span{span(0, 0), span(12, 12)}},
		{upAndDown, 0, 3, 9, []api.Span{span(2, 4), span(8, 10), span(14, 16)}},
		{upAndDown, 1, 0, 0, []api.Span{span(0, 18)}},
		{unsure(), 1, 0, 3, []api.Span{span(10, 21)}},
		{unsure(look(1, 10, 1, 1)), 1, 1, 4, []api.Span{span(10, 22)}},
	} {
		if l, e := tide.Served(x.tide, x.place, x.least, x.most); !slices.Equal(l, x.want) || e != api.OK {
			t.Error(i, l, e)
		}
	}
}

// P1.3.
func TestFirst(t *testing.T) {
	wave := api.Tide{
		Marks: []api.TideMark{mark(20, 12, 12), mark(26, 0, 2), mark(32, 12, 12)},
		Sand:  []api.Span{span(0, 0)},
	}
	for i, x := range []struct {
		least, from int
		sure        bool
		want        int
		e           api.Errno
	}{
		{12, 20, true, 20, api.OK}, {12, 21, true, 32, api.OK}, {12, 32, true, 32, api.OK},
		{1, 26, true, 27, api.OK}, {1, 26, false, 26, api.OK}, {2, 26, false, 26, api.OK}, {3, 26, false, 28, api.OK},
		{0, 26, true, 26, api.OK}, {13, 20, true, 0, api.ErrNone}, {13, 20, false, 0, api.ErrNone}, {60, 32, false, 0, api.ErrNone},
	} {
		if n, e := tide.First(wave, 0, x.least, x.from, x.sure); n != x.want || e != x.e {
			t.Error(i, n, e)
		}
	}
	unsureForever := twoMarks(mark(0, 4, 5), mark(6, 4, 5))
	if n, e := tide.First(unsureForever, 0, 5, 2, true); n != 0 || e != api.ErrNone {
		t.Error(n, e)
	}
	if n, e := tide.First(unsureForever, 0, 5, 2, false); n != 2 || e != api.OK {
		t.Error(n, e)
	}
}

// P1.4.
func TestPlaces(t *testing.T) {
	x := twoMarks(mark(0, 10, 11), mark(6, 10, 10))
	x.Sand = []api.Span{span(0, 2), span(6, 6), span(5, 7), span(12, 14)}
	for i, y := range []struct {
		minute, least, most, surely, perhaps int
	}{
		{0, 4, 5, 2, 6}, {6, 4, 5, 2, 6}, {0, 0, 60, 15, 15}, {0, 0, 0, 8, 8}, {0, 6, 9, 0, 5},
		{0, 11, 11, 0, 1}, {0, 12, 60, 0, 0}, {0, 3, 6, 6, 6}, {0, 6, 3, 0, 0},
	} {
		a, b, e := tide.Places(x, y.minute, y.least, y.most)
		if a != y.surely || b != y.perhaps || e != api.OK {
			t.Error(i, a, b, e)
		}
	}
	// It is 0 or 2 deep at the place 0, but not 1, though 1 is between them.
	gap := twoMarks(mark(0, 0, 2), mark(6, 0, 2))
	gap.Sand = []api.Span{span(0, 0), span(0, 2)}
	gap.Looks = []api.TideLook{look(0, 0, 2, 2)}
	if a, b, e := tide.Places(gap, 0, 1, 1); a != 0 || b != 2 || e != api.OK {
		t.Error(a, b, e)
	}
}

// P1.5.
func TestCount(t *testing.T) {
	most := api.Tide{
		Marks: []api.TideMark{mark(0, 0, 2), mark(6, 58, 60), mark(12, 1, 3), mark(18, 5, 7)},
		Sand:  []api.Span{span(0, 2), span(1, 3), span(2, 4), span(58, 60)},
	}
	for i, x := range []struct {
		tide api.Tide
		want int
	}{{most, 6561}, {unsure(), 54}, {unsure(look(0, 10, 2, 2)), 18}, {unsure(look(0, 10, 2, 2), look(1, 10, 0, 0)), 12}, {unsure(look(0, 10, 9, 9)), 0}, {twoMarks(mark(0, 1, 1), mark(6, 1, 1)), 1}} {
		if n, e := tide.Count(x.tide); n != x.want || e != api.OK {
			t.Error(i, n, e)
		}
	}
}

// P1.6.
func TestNext(t *testing.T) {
	for i, x := range []struct {
		tide                api.Tide
		minute, place, left int
	}{
		// Of 54 truths a look at the place 0 leaves at most 18, at the place 1 at most 36 and at the place 2 at most 18.
		{unsure(), 10, 0, 18},
		// Of 18 truths of the minute 10 each look at the place 0 leaves all.
		{unsure(look(0, 10, 2, 2)), 10, 2, 6},
		{twoMarks(mark(0, 1, 1), mark(6, 1, 1)), 3, 0, 1},
		// As deep as can be.
		{twoMarks(mark(0, 59, 60), mark(6, 60, 60)), 6, 0, 2},
	} {
		if p, n, e := tide.Next(x.tide, x.minute); p != x.place || n != x.left || e != api.OK {
			t.Error(i, p, n, e)
		}
	}
	// Places of which a look tells the same: the first one is meant.
	same := twoMarks(mark(0, 5, 7), mark(6, 5, 7))
	same.Sand = []api.Span{span(9, 9), span(0, 0), span(0, 0)}
	if p, n, e := tide.Next(same, 0); p != 1 || n != 3 || e != api.OK {
		t.Error(p, n, e)
	}
}

// P1.7.
func TestClash(t *testing.T) {
	flat := twoMarks(mark(0, 10, 12), mark(6, 10, 12))
	flat.Sand = []api.Span{span(0, 0), span(0, 0), span(4, 6)}
	for i, x := range []struct {
		looks []api.TideLook
		want  int
		e     api.Errno
	}{
		{nil, 0, api.ErrNone},
		{[]api.TideLook{look(0, 0, 10, 12), look(1, 0, 10, 12)}, 0, api.ErrNone},
		{[]api.TideLook{look(0, 0, 13, 60)}, 1, api.OK},
		{[]api.TideLook{look(0, 0, 13, 60), look(1, 0, 0, 9)}, 1, api.OK},
		{[]api.TideLook{look(0, 0, 10, 10), look(1, 0, 11, 11)}, 3, api.OK},
		// One look alone is fewer than the two of lesser numbers.
		{[]api.TideLook{look(0, 0, 10, 10), look(1, 0, 11, 11), look(2, 0, 0, 0)}, 4, api.OK},
		// Of several pairs the least number.
		{[]api.TideLook{look(0, 0, 11, 12), look(0, 0, 10, 11), look(1, 0, 10, 10), look(1, 0, 12, 12)}, 5, api.OK},
		{[]api.TideLook{look(0, 0, 10, 12), look(0, 6, 11, 11), look(1, 0, 11, 11), look(1, 6, 11, 12), look(0, 0, 12, 12), look(1, 6, 10, 10)}, 20, api.OK},
		// A look 8 deep at the place 2 needs water 12 high, which stands 11 high by the look 4.
		{[]api.TideLook{look(2, 0, 6, 6), look(0, 0, 10, 11), look(2, 6, 8, 8), look(0, 6, 12, 12), look(1, 6, 11, 11)}, 20, api.OK},
		// Three that clash, though any two of them do not: the sand would lie at 4, and the water stand at 9.
		{[]api.TideLook{look(2, 6, 7, 7), look(0, 0, 10, 10), look(2, 0, 5, 5), look(0, 6, 11, 11)}, 13, api.OK},
	} {
		flat.Looks = x.looks
		if n, e := tide.Clash(flat); n != x.want || e != x.e {
			t.Error(i, n, e)
		}
	}
}

// change is a tide made from another one.
type change struct {
	name string
	do   func(x *api.Tide)
}

// invalid are changes of the tide T that make it a tide that is not valid.
func invalid() []change {
	const low, high = math.MinInt, math.MaxInt
	return []change{
		{"no mark", func(x *api.Tide) { x.Marks = nil }},
		{"one mark", func(x *api.Tide) { x.Marks, x.Looks = x.Marks[:1], nil }},
		{"five marks", func(x *api.Tide) { x.Marks = append(x.Marks, mark(130, 1, 1), mark(140, 1, 1)) }},
		{"minute below 0", func(x *api.Tide) { x.Marks[0].Minute = -1 }},
		{"least minute", func(x *api.Tide) { x.Marks[0].Minute = low }},
		{"minute 241", func(x *api.Tide) { x.Marks[2].Minute = api.TideMinutes + 1 }},
		{"greatest minute", func(x *api.Tide) { x.Marks[2].Minute = high }},
		{"five minutes apart", func(x *api.Tide) { x.Marks[2].Minute = 65 }},
		{"the same minute", func(x *api.Tide) { x.Marks[1].Minute = 0 }},
		{"marks not in order", func(x *api.Tide) { x.Marks[0], x.Marks[1] = x.Marks[1], x.Marks[0] }},
		{"height below 0", func(x *api.Tide) { x.Marks[2].Height = span(-1, 0) }},
		{"height above 60", func(x *api.Tide) { x.Marks[0].Height = span(60, 61) }},
		{"height of no number", func(x *api.Tide) { x.Marks[1].Height = span(41, 40) }},
		{"height wide", func(x *api.Tide) { x.Marks[1].Height = span(40, 43) }},
		{"height widest", func(x *api.Tide) { x.Marks[1].Height = span(low, high) }},
		{"no sand", func(x *api.Tide) { x.Sand, x.Looks = nil, nil }},
		{"five places", func(x *api.Tide) { x.Sand = append(x.Sand, span(1, 1), span(1, 1), span(1, 1)) }},
		{"sand below 0", func(x *api.Tide) { x.Sand[1] = span(-1, 1) }},
		{"sand above 60", func(x *api.Tide) { x.Sand[0] = span(59, 61) }},
		{"sand of no number", func(x *api.Tide) { x.Sand[0] = span(6, 5) }},
		{"sand wide", func(x *api.Tide) { x.Sand[0] = span(4, 7) }},
		{"sand widest", func(x *api.Tide) { x.Sand[0] = span(low, high) }},
		{"seven looks", func(x *api.Tide) { x.Looks = slices.Repeat(x.Looks, 7) }},
		{"look at no place", func(x *api.Tide) { x.Looks[0].Place = 2 }},
		{"look at a place below 0", func(x *api.Tide) { x.Looks[0].Place = -1 }},
		{"look before the tide", func(x *api.Tide) { x.Marks[0].Minute, x.Looks[0].Minute = 10, 9 }},
		{"look behind the tide", func(x *api.Tide) { x.Looks[0].Minute = 121 }},
		{"look at the greatest minute", func(x *api.Tide) { x.Looks[0].Minute = high }},
		{"depth below 0", func(x *api.Tide) { x.Looks[0].Depth = span(-1, 6) }},
		{"depth above 60", func(x *api.Tide) { x.Looks[0].Depth = span(6, 61) }},
		{"depth of no number", func(x *api.Tide) { x.Looks[0].Depth = span(7, 6) }},
		{"the last look", func(x *api.Tide) { x.Looks = append(x.Looks, look(5, 0, 0, 0)) }},
	}
}

// limits are changes of the tide T that go as far as they may.
func limits() []change {
	return []change{
		{"four marks", func(x *api.Tide) { x.Marks = append(x.Marks, mark(126, 60, 60)) }},
		{"two marks", func(x *api.Tide) { x.Marks = x.Marks[:2] }},
		{"minute 240", func(x *api.Tide) { x.Marks[2].Minute = api.TideMinutes }},
		{"six minutes apart", func(x *api.Tide) { x.Marks[2].Minute = 66 }},
		{"height 0 to 2", func(x *api.Tide) { x.Marks[2].Height = span(0, 2) }},
		{"height 58 to 60", func(x *api.Tide) { x.Marks[2].Height = span(58, 60) }},
		{"one place", func(x *api.Tide) { x.Sand, x.Looks = x.Sand[:1], nil }},
		{"four places", func(x *api.Tide) { x.Sand = append(x.Sand, span(58, 60), span(0, 2)) }},
		{"no looks", func(x *api.Tide) { x.Looks = []api.TideLook{} }},
		{"six looks", func(x *api.Tide) { x.Looks = slices.Repeat(x.Looks, 6) }},
		{"looks at the ends", func(x *api.Tide) { x.Looks = append(x.Looks, look(0, 0, 0, 60), look(1, 120, 0, 60)) }},
	}
}

// call is a call of one of the functions: its error, and whether all other results are zero values.
type call struct {
	name string
	do   func(x api.Tide, place, minute, depth int) (api.Errno, bool)
}

func calls() []call {
	return []call{
		{"Height", func(x api.Tide, _, minute, _ int) (api.Errno, bool) {
			s, e := tide.Height(x, minute)
			return e, s == api.Span{}
		}},
		{"Depth", func(x api.Tide, place, minute, _ int) (api.Errno, bool) {
			s, e := tide.Depth(x, place, minute)
			return e, s == api.Span{}
		}},
		{"Sand", func(x api.Tide, place, _, _ int) (api.Errno, bool) {
			s, e := tide.Sand(x, place)
			return e, s == api.Span{}
		}},
		{"Served, least", func(x api.Tide, place, _, depth int) (api.Errno, bool) {
			l, e := tide.Served(x, place, depth, 60)
			return e, len(l) == 0
		}},
		{"Served, most", func(x api.Tide, place, _, depth int) (api.Errno, bool) {
			l, e := tide.Served(x, place, 0, depth)
			return e, len(l) == 0
		}},
		{"First", func(x api.Tide, place, minute, depth int) (api.Errno, bool) {
			n, e := tide.First(x, place, depth, minute, true)
			return e, n == 0
		}},
		{"Places, least", func(x api.Tide, _, minute, depth int) (api.Errno, bool) {
			a, b, e := tide.Places(x, minute, depth, 60)
			return e, a == 0 && b == 0
		}},
		{"Places, most", func(x api.Tide, _, minute, depth int) (api.Errno, bool) {
			a, b, e := tide.Places(x, minute, 0, depth)
			return e, a == 0 && b == 0
		}},
		{"Count", func(x api.Tide, _, _, _ int) (api.Errno, bool) {
			n, e := tide.Count(x)
			return e, n == 0
		}},
		{"Next", func(x api.Tide, _, minute, _ int) (api.Errno, bool) {
			p, n, e := tide.Next(x, minute)
			return e, p == 0 && n == 0
		}},
		{"Clash", func(x api.Tide, _, _, _ int) (api.Errno, bool) {
			n, e := tide.Clash(x)
			return e, n == 0
		}},
	}
}

// ErrArg comes first, whatever else is wrong.
func TestInvalidTides(t *testing.T) {
	for _, c := range invalid() {
		x := tideN()
		c.do(&x)
		for _, f := range calls() {
			for _, n := range []int{math.MinInt, -1, 0, math.MaxInt} {
				if e, zero := f.do(x, n, n, n); e != api.ErrArg || !zero {
					t.Error(c.name, f.name, n, e, zero)
				}
			}
		}
	}
	if _, e := tide.Count(api.Tide{}); e != api.ErrArg {
		t.Error(e)
	}
}

func TestLimitsAreValid(t *testing.T) {
	for _, c := range limits() {
		x := tideT()
		c.do(&x)
		for _, f := range calls() {
			if e, _ := f.do(x, 0, 0, 0); e != api.OK && (f.name != "Clash" || e != api.ErrNone) {
				t.Error(c.name, f.name, e)
			}
		}
	}
}

// uses is which of place, minute and depth a function takes.
func uses(name string) (place, minute, depth bool) {
	switch name {
	case "Height", "Next":
		return false, true, false
	case "Depth":
		return true, true, false
	case "Sand":
		return true, false, false
	case "Served, least", "Served, most":
		return true, false, true
	case "First":
		return true, true, true
	case "Places, least", "Places, most":
		return false, true, true
	}
	return false, false, false
}

// ErrRange comes before ErrClash, for each argument by itself, and only beyond its bounds.
func TestRanges(t *testing.T) {
	late := func(x api.Tide) api.Tide {
		x.Marks[0].Minute = 10
		return x
	}
	for _, f := range calls() {
		place, minute, depth := uses(f.name)
		wrong := func(used bool, e api.Errno) api.Errno {
			if used {
				return api.ErrRange
			}
			return e
		}
		right := api.ErrClash
		if f.name == "Count" || f.name == "Clash" {
			right = api.OK
		}
		for i, c := range []struct {
			place, minute, depth int
			e                    api.Errno
		}{
			{0, 10, 0, right}, {1, 120, 60, right},
			{-1, 10, 0, wrong(place, right)}, {2, 10, 0, wrong(place, right)}, {math.MinInt, 10, 0, wrong(place, right)}, {math.MaxInt, 10, 0, wrong(place, right)},
			{0, 9, 0, wrong(minute, right)}, {0, 121, 0, wrong(minute, right)}, {0, math.MinInt, 0, wrong(minute, right)}, {0, math.MaxInt, 0, wrong(minute, right)},
			{0, 10, -1, wrong(depth, right)}, {0, 10, 61, wrong(depth, right)}, {0, 10, math.MinInt, wrong(depth, right)}, {0, 10, math.MaxInt, wrong(depth, right)},
		} {
			if e, zero := f.do(late(tideN()), c.place, c.minute, c.depth); e != c.e || e != api.OK && !zero {
				t.Error(f.name, i, e, zero, "not", c.e)
			}
			if c.e != api.ErrRange {
				continue
			}
			if e, zero := f.do(late(tideT()), c.place, c.minute, c.depth); e != c.e || !zero {
				t.Error(f.name, i, e, zero, "not", c.e)
			}
		}
	}
}

// R4: no argument is changed, and a result is new memory.
func TestMemory(t *testing.T) {
	for _, x := range []api.Tide{tideT(), tideN()} {
		same := api.Tide{Marks: slices.Clone(x.Marks), Sand: slices.Clone(x.Sand), Looks: slices.Clone(x.Looks)}
		for _, f := range calls() {
			f.do(x, 0, 30, 3)
			if !slices.Equal(x.Marks, same.Marks) || !slices.Equal(x.Sand, same.Sand) || !slices.Equal(x.Looks, same.Looks) {
				t.Fatal(f.name, x)
			}
		}
	}
	x := tideT()
	l, _ := tide.Served(x, 1, 5, 8)
	l[0] = span(1, 2)
	if l, _ := tide.Served(x, 1, 5, 8); l[0] != span(29, 33) {
		t.Error(l)
	}
}

// Nothing is kept from call to call: after a call with an error, or with another tide, all is as it was.
func TestCallsKnowNothingOfOneAnother(t *testing.T) {
	for range 2 {
		TestExamples(t)
		if _, e := tide.Height(api.Tide{}, 0); e != api.ErrArg {
			t.Error(e)
		}
		if s, _ := tide.Height(twoMarks(mark(0, 1, 1), mark(60, 7, 7)), 30); s != span(4, 4) {
			t.Error(s)
		}
	}
}
