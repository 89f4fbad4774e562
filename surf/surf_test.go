package surf_test

import (
	"fmt"
	"math"
	"slices"
	"testing"

	"dipworks/api"
	"dipworks/surf"
)

func span(lo, hi int) api.Span { return api.Span{Lo: lo, Hi: hi} }

// spans are spans of one number each.
func spans(l ...int) (list []api.Span) {
	for _, n := range l {
		list = append(list, span(n, n))
	}
	return list
}

func hut(floor, brake, row int) api.SurfHut {
	return api.SurfHut{Floor: floor, Brake: brake, Row: row}
}

func surfOf(rows, step int, water, waves []api.Span, huts ...api.SurfHut) api.Surf {
	return api.Surf{Rows: rows, Step: step, Water: water, Waves: waves, Huts: huts}
}

// surfS is that of the examples.
func surfS() api.Surf {
	return surfOf(3, 2, []api.Span{span(3, 4), span(5, 5), span(6, 7), span(4, 4)}, []api.Span{span(1, 1), span(1, 2), span(2, 3), span(0, 1)}, hut(6, 2, 0), hut(4, 1, 1), hut(9, 0, 2))
}

// rising is a surf without waves whose water is 1 high in the hour 0, 2 in the hour 1, and so on: a hut of the floor 3 floats from the hour 3 on.
func rising(hours int, huts ...api.SurfHut) api.Surf {
	s := surfOf(1, 0, nil, nil, huts...)
	for hour := range hours {
		s.Water, s.Waves = append(s.Water, span(hour+1, hour+1)), append(s.Waves, span(0, 0))
	}
	return s
}

// widest is a surf of as many truths as there can be.
func widest() api.Surf {
	h := hut(25, 7, 5)
	return surfOf(6, 4, slices.Repeat([]api.Span{span(27, 30)}, 8), slices.Repeat([]api.Span{span(7, 10)}, 8), hut(11, 7, 5), hut(5, 8, 5), h, h, hut(0, 0, 4))
}

func TestExamples(t *testing.T) {
	s := surfS()
	for _, x := range []struct {
		hour, row int
		want      api.Span
	}{{2, 1, span(4, 5)}, {0, 2, span(0, 0)}} {
		if d, e := surf.Depth(s, x.hour, x.row); d != x.want || e != api.OK {
			t.Error("Depth", x, d, e)
		}
	}
	for _, x := range []struct {
		hut, hour, rows int
		lost            bool
	}{{0, 2, 1, true}, {1, 1, 3, false}, {1, 3, 1, true}} {
		if n, is, e := surf.Rows(s, x.hut, x.hour); n != x.rows || is != x.lost || e != api.OK {
			t.Error("Rows", x, n, is, e)
		}
	}
	for n, want := range [][2]int{{4, 6}, {4, 14}, {0, 0}} {
		if a, b, e := surf.Floats(s, n); a != want[0] || b != want[1] || e != api.OK {
			t.Error("Floats", n, a, b, e)
		}
	}
	for n, want := range map[int]int{0: 1, 2: 0} {
		if x, e := surf.Lost(s, n); x != want || e != api.OK {
			t.Error("Lost", n, x, e)
		}
	}
	if x, e := surf.Before(s, 0); x != 1 || e != api.OK {
		t.Error("Before", x, e)
	}
	if x, e := surf.Before(s, 2); x != 0 || e != api.ErrNone {
		t.Error("Before", x, e)
	}
	for n, want := range [][2]int{{3, 10}, {2, 8}, {0, 6}} {
		if x, e := surf.Brake(s, n); x != want[0] || e != api.OK {
			t.Error("Brake", n, x, e)
		}
		if x, e := surf.Floor(s, n); x != want[1] || e != api.OK {
			t.Error("Floor", n, x, e)
		}
	}
	for _, x := range []struct {
		many int
		list []int
		left int
	}{{1, []int{-1, 0, -1}, 1}, {2, []int{0, 0, -1}, 0}, {0, []int{-1, -1, -1}, 3}} {
		if l, n, e := surf.Save(s, x.many); !slices.Equal(l, x.list) || n != x.left || e != api.OK {
			t.Error("Save", x, l, n, e)
		}
	}
}

// P4.1: not below 0, at either end.
func TestDepth(t *testing.T) {
	for i, x := range []struct {
		water           api.Span
		rows, step, row int
		want            api.Span
	}{
		{span(3, 6), 3, 2, 0, span(3, 6)}, {span(3, 6), 3, 2, 1, span(1, 4)}, {span(3, 6), 3, 2, 2, span(0, 2)}, {span(1, 4), 3, 2, 2, span(0, 0)},
		{span(3, 6), 6, 0, 5, span(3, 6)}, {span(0, 3), 1, 4, 0, span(0, 3)}, {span(27, 30), 6, 4, 5, span(7, 10)}, {span(20, 23), 6, 4, 5, span(0, 3)}, {span(17, 20), 6, 4, 5, span(0, 0)},
	} {
		s := surfOf(x.rows, x.step, []api.Span{span(9, 9), x.water}, spans(3, 4))
		if d, e := surf.Depth(s, 1, x.row); d != x.want || e != api.OK {
			t.Error(i, d, e)
		}
	}
}

// fate is what is told of a hut.
type fate struct {
	rows                     []int // after each hour
	lostIn                   int   // the first hour after which it can be lost; -1: none
	surely, perhaps          int
	lost, before             int
	e                        api.Errno
	enoughBrake, enoughFloor int
}

// P4.2 to P4.6: to the height at which each thing begins.
func TestHuts(t *testing.T) {
	one := func(water, waves api.Span, h api.SurfHut) api.Surf {
		return surfOf(1, 0, []api.Span{water}, []api.Span{waves}, h)
	}
	at := func(n int) api.Span { return span(n, n) }
	six := slices.Repeat(spans(1), 8)
	for i, x := range []struct {
		s    api.Surf
		want fate
	}{
		// Where there is no depth no waves lift a hut.
		{one(at(0), at(10), hut(0, 0, 0)), fate{[]int{1}, -1, 0, 0, 0, 0, api.ErrNone, 0, 0}},
		{one(at(1), at(0), hut(0, 0, 0)), fate{[]int{1}, -1, 1, 1, 0, 0, api.OK, 0, 1}},
		// Depth and waves have to be more than the floor, and waves more than the brake.
		{one(at(1), at(0), hut(1, 0, 0)), fate{[]int{1}, -1, 0, 0, 0, 0, api.ErrNone, 0, 1}},
		{one(at(1), at(1), hut(2, 0, 0)), fate{[]int{1}, -1, 0, 0, 0, 0, api.ErrNone, 0, 2}},
		{one(at(1), at(1), hut(1, 0, 0)), fate{[]int{0}, 0, 1, 1, 2, 0, api.OK, 1, 2}},
		{one(at(1), at(1), hut(1, 1, 0)), fate{[]int{1}, -1, 1, 1, 0, 0, api.OK, 1, 2}},
		// The waves that lift it are those that its brake has to hold.
		{one(at(1), span(1, 3), hut(3, 2, 0)), fate{[]int{1}, 0, 0, 1, 1, 0, api.OK, 3, 4}},
		{one(at(1), span(1, 3), hut(3, 3, 0)), fate{[]int{1}, -1, 0, 1, 0, 0, api.OK, 3, 4}},
		{one(span(4, 5), span(0, 1), hut(4, 0, 0)), fate{[]int{1}, 0, 0, 1, 1, 0, api.OK, 1, 6}},
		{one(span(5, 6), span(1, 2), hut(5, 0, 0)), fate{[]int{0}, 0, 1, 1, 2, 0, api.OK, 2, 8}},
		{one(span(5, 6), span(1, 2), hut(5, 1, 0)), fate{[]int{1}, 0, 1, 1, 1, 0, api.OK, 2, 8}},
		// As high as all can be.
		{one(span(27, 30), span(7, 10), hut(40, 0, 0)), fate{[]int{1}, -1, 0, 0, 0, 0, api.ErrNone, 0, 40}},
		{one(span(27, 30), span(7, 10), hut(39, 9, 0)), fate{[]int{1}, 0, 0, 1, 1, 0, api.OK, 10, 40}},
		{one(span(27, 30), span(7, 10), hut(39, 10, 0)), fate{[]int{1}, -1, 0, 1, 0, 0, api.OK, 10, 40}},
		{one(span(27, 30), span(7, 10), hut(33, 6, 0)), fate{[]int{0}, 0, 1, 1, 2, 0, api.OK, 10, 40}},
		{one(span(27, 30), span(7, 10), hut(34, 6, 0)), fate{[]int{1}, 0, 0, 1, 1, 0, api.OK, 10, 40}},
		// No hours.
		{surfOf(2, 0, nil, nil, hut(0, 0, 1)), fate{nil, -1, 0, 0, 0, 0, api.ErrNone, 0, 0}},
		// It goes a row out, where it is deeper; and there it stays while there is no water.
		{surfOf(2, 4, spans(4, 5, 0, 1), spans(10, 10, 10, 10), hut(0, 9, 1)), fate{[]int{2, 1, 1, 0}, 3, 10, 10, 2, 1, api.OK, 10, 11}},
		// A lost hut does not float any more.
		{surfOf(1, 0, spans(5, 5, 5), spans(5, 5, 5), hut(0, 4, 0)), fate{[]int{0, 0, 0}, 0, 1, 1, 2, 0, api.OK, 5, 10}},
		{surfOf(1, 0, spans(5, 5), []api.Span{span(4, 5), span(4, 4)}, hut(0, 4, 0)), fate{[]int{1, 1}, 0, 1, 3, 1, 0, api.OK, 5, 10}},
		{surfOf(1, 0, spans(5, 5), []api.Span{span(4, 5), span(5, 5)}, hut(0, 4, 0)), fate{[]int{1, 0}, 0, 1, 3, 2, 0, api.OK, 5, 10}},
		// In whichever row it is it floats, or only in one.
		{surfOf(2, 1, spans(9, 9), []api.Span{span(2, 3), span(0, 0)}, hut(7, 2, 1)), fate{[]int{3, 3}, -1, 3, 3, 0, 0, api.OK, 0, 11}},
		{surfOf(2, 1, spans(9, 9), []api.Span{span(2, 3), span(0, 0)}, hut(8, 2, 1)), fate{[]int{3, 3}, -1, 1, 3, 0, 0, api.OK, 0, 11}},
		// A row an hour, from the last one until it is lost.
		{surfOf(6, 0, six, six, hut(1, 0, 5)), fate{[]int{16, 8, 4, 2, 1, 0, 0, 0}, 5, 63, 63, 2, 0, api.OK, 1, 2}},
		{surfOf(6, 0, six, slices.Repeat([]api.Span{span(0, 1)}, 8), hut(0, 0, 5)), fate{[]int{48, 56, 60, 62, 63, 63, 63, 63}, 5, 63, 255, 1, 0, api.OK, 1, 2}},
		// The least brake that is enough lets a hut go out, but not to be lost.
		{surfOf(3, 0, spans(5, 5, 5), spans(3, 2, 4), hut(0, 9, 2)), fate{[]int{4, 4, 4}, -1, 7, 7, 0, 0, api.OK, 2, 9}},
		// With a lower floor it would float in the row 0 only, so that it stays.
		{surfOf(2, 4, spans(9, 4), spans(0, 9), hut(3, 9, 1)), fate{[]int{2, 2}, -1, 1, 1, 0, 0, api.OK, 0, 5}},
	} {
		checkFate(t, fmt.Sprint(i), x.s, x.want)
	}
	if api.SurfNever != 0 || api.SurfPerhaps != 1 || api.SurfAlways != 2 {
		t.Error("the chapter's numbers")
	}
}

// checkFate fails unless the fate is told of the hut 0.
func checkFate(t *testing.T, name string, s api.Surf, want fate) {
	for hour, rows := range want.rows {
		gone := want.lostIn >= 0 && hour >= want.lostIn
		if n, is, e := surf.Rows(s, 0, hour); n != rows || is != gone || e != api.OK {
			t.Error(name, "Rows", hour, n, is, e)
		}
	}
	if a, b, e := surf.Floats(s, 0); a != want.surely || b != want.perhaps || e != api.OK {
		t.Error(name, "Floats", a, b, e)
	}
	if n, e := surf.Lost(s, 0); n != want.lost || e != api.OK {
		t.Error(name, "Lost", n, e)
	}
	if n, e := surf.Before(s, 0); n != want.before || e != want.e {
		t.Error(name, "Before", n, e)
	}
	if n, e := surf.Brake(s, 0); n != want.enoughBrake || e != api.OK {
		t.Error(name, "Brake", n, e)
	}
	if n, e := surf.Floor(s, 0); n != want.enoughFloor || e != api.OK {
		t.Error(name, "Floor", n, e)
	}
}

// P4.7: a hut of the floor n of a rising surf floats from the hour n on.
func TestSave(t *testing.T) {
	floors := func(l ...int) api.Surf {
		s := rising(8)
		for _, n := range l {
			s.Huts = append(s.Huts, hut(n, 0, 0))
		}
		return s
	}
	for i, x := range []struct {
		s    api.Surf
		many int
		list []int
		left int
	}{
		{rising(0), 1, nil, 0}, {floors(), 5, nil, 0},
		{rising(0, hut(0, 0, 0), hut(0, 0, 0)), 1, []int{-1, -1}, 0},
		// What floats in the hour 0 cannot be saved, what does not float need not be.
		{floors(0), 5, []int{-1}, 1}, {floors(1), 5, []int{0}, 0}, {floors(8), 5, []int{-1}, 0}, {floors(7), 5, []int{0}, 0},
		{floors(8, 0, 8), 5, []int{-1, -1, -1}, 2},
		{floors(1, 2, 3, 4, 5), 0, []int{-1, -1, -1, -1, -1}, 31},
		// The first list: as early as leaves the others time.
		{floors(1, 2, 3, 4, 5), 1, []int{0, 1, 2, 3, 4}, 0}, {floors(5, 4, 3, 2, 1), 1, []int{4, 3, 2, 1, 0}, 0},
		{floors(5, 4, 3, 2, 1), 2, []int{0, 1, 2, 1, 0}, 0}, {floors(7, 7, 7, 7, 7), 1, []int{0, 1, 2, 3, 4}, 0}, {floors(7, 7, 7, 7, 7), 3, []int{0, 0, 0, 1, 1}, 0},
		{floors(7, 7, 7, 7, 7), 5, []int{0, 0, 0, 0, 0}, 0}, {floors(7, 7, 7, 7, 7), 4, []int{0, 0, 0, 0, 1}, 0},
		{floors(3, 1), 1, []int{1, 0}, 0}, {floors(3, 1, 3), 1, []int{1, 0, 2}, 0}, {floors(3, 8, 2), 1, []int{0, -1, 1}, 0},
		// The fewest are left; of these the least number.
		{floors(1, 1), 1, []int{-1, 0}, 1}, {floors(1, 1, 2), 1, []int{-1, 0, 1}, 1}, {floors(2, 1, 1), 1, []int{1, -1, 0}, 2}, {floors(2, 2, 1), 1, []int{-1, 1, 0}, 1},
		{floors(2, 2, 1, 1), 1, []int{-1, 1, -1, 0}, 5}, {floors(1, 1, 1, 1, 1), 4, []int{-1, 0, 0, 0, 0}, 1}, {floors(1, 1, 1, 1, 1), 2, []int{-1, -1, -1, 0, 0}, 7},
		{floors(4, 4, 4, 4, 4), 1, []int{-1, 0, 1, 2, 3}, 1}, {floors(0, 1, 1, 8, 2), 1, []int{-1, -1, 0, -1, 1}, 3}, {floors(2, 0, 2, 2, 8), 1, []int{-1, -1, 0, 1, -1}, 3},
		{floors(3, 3, 0, 0), 1, []int{0, 1, -1, -1}, 12},
		// A hut that only perhaps floats has to be drawn in, too.
		{surfOf(1, 0, []api.Span{span(1, 1), span(4, 7)}, spans(0, 0), hut(6, 0, 0), hut(7, 0, 0)), 1, []int{0, -1}, 0},
		{surfOf(1, 0, []api.Span{span(4, 7)}, spans(0), hut(6, 0, 0), hut(7, 0, 0)), 1, []int{-1, -1}, 1},
	} {
		if l, n, e := surf.Save(x.s, x.many); !slices.Equal(l, x.list) || n != x.left || e != api.OK {
			t.Error(i, l, n, e)
		}
	}
}

// argument is what a function takes besides a surf.
type argument int

const (
	hourAndRow argument = iota
	hutAndHour
	aHut
	howMany
)

// call is a call of one of the functions: its error, and whether all other results are zero values.
type call struct {
	name string
	uses argument
	do   func(s api.Surf, n, m int) (api.Errno, bool)
}

// tell returns the results of a call, as a text.
func (c call) tell(s api.Surf, n, m int) string {
	switch c.name {
	case "Floats":
		a, b, e := surf.Floats(s, n)
		return fmt.Sprint(a, b, e)
	case "Lost":
		a, e := surf.Lost(s, n)
		return fmt.Sprint(a, e)
	case "Before":
		a, e := surf.Before(s, n)
		return fmt.Sprint(a, e)
	case "Brake":
		a, e := surf.Brake(s, n)
		return fmt.Sprint(a, e)
	case "Floor":
		a, e := surf.Floor(s, n)
		return fmt.Sprint(a, e)
	case "Rows":
		a, is, e := surf.Rows(s, n, m)
		return fmt.Sprint(a, is, e)
	case "Depth":
		a, e := surf.Depth(s, n, m)
		return fmt.Sprint(a, e)
	}
	l, a, e := surf.Save(s, n)
	return fmt.Sprint(l, a, e)
}

func calls() []call {
	list := []call{
		{"Depth", hourAndRow, func(s api.Surf, n, m int) (api.Errno, bool) {
			d, e := surf.Depth(s, n, m)
			return e, d == api.Span{}
		}},
		{"Rows", hutAndHour, func(s api.Surf, n, m int) (api.Errno, bool) {
			x, is, e := surf.Rows(s, n, m)
			return e, x == 0 && !is
		}},
		{"Floats", aHut, func(s api.Surf, n, _ int) (api.Errno, bool) {
			a, b, e := surf.Floats(s, n)
			return e, a == 0 && b == 0
		}},
		{"Save", howMany, func(s api.Surf, n, _ int) (api.Errno, bool) {
			l, x, e := surf.Save(s, n)
			return e, len(l) == 0 && x == 0
		}},
	}
	for name, f := range map[string]func(api.Surf, int) (int, api.Errno){"Lost": surf.Lost, "Before": surf.Before, "Brake": surf.Brake, "Floor": surf.Floor} {
		list = append(list, call{name, aHut, func(s api.Surf, n, _ int) (api.Errno, bool) {
			x, e := f(s, n)
			return e, x == 0
		}})
	}
	return list
}

// named is a surf with a name.
type named struct {
	name string
	s    api.Surf
}

// invalid are surfs that are not valid, each for one reason.
func invalid() (list []named) {
	const low, high = math.MinInt, math.MaxInt
	add := func(name string, change func(s *api.Surf)) {
		s := surfS()
		change(&s)
		list = append(list, named{name, s})
	}
	for _, n := range []int{low, -1, 0, api.SurfRows + 1, high, 2} { // 2, as a hut is in the row 2
		add("rows", func(s *api.Surf) { s.Rows = n })
	}
	for _, n := range []int{low, -1, api.SurfStep + 1, high} {
		add("step", func(s *api.Surf) { s.Step = n })
	}
	add("all", func(s *api.Surf) { *s = api.Surf{} })
	add("less water", func(s *api.Surf) { s.Water = s.Water[:3] })
	add("fewer waves", func(s *api.Surf) { s.Waves = s.Waves[:3] })
	add("no water", func(s *api.Surf) { s.Water = nil })
	add("no waves", func(s *api.Surf) { s.Waves = nil })
	add("nine hours", func(s *api.Surf) { s.Water, s.Waves = make([]api.Span, 9), make([]api.Span, 9) })
	add("nine hours of water", func(s *api.Surf) { s.Water, s.Waves = make([]api.Span, 9), make([]api.Span, 8) })
	add("nine hours of waves", func(s *api.Surf) { s.Water, s.Waves = make([]api.Span, 8), make([]api.Span, 9) })
	add("six huts", func(s *api.Surf) { s.Huts = make([]api.SurfHut, 6) })
	for _, x := range []api.Span{span(1, 0), span(-1, 0), span(-1, -1), span(0, 4), span(5, 9), span(low, 0), span(low, low), span(0, high), span(high, high), span(low, high), span(high, low), span(high, 0), span(2, low)} {
		for _, hour := range []int{0, 3} {
			add("water", func(s *api.Surf) { s.Water[hour] = x })
			add("waves", func(s *api.Surf) { s.Waves[hour] = x })
		}
	}
	for _, n := range []int{0, 3} {
		add("water too high", func(s *api.Surf) { s.Water[n] = span(30, 31) })
		add("all water too high", func(s *api.Surf) { s.Water[n] = span(31, 31) })
		add("waves too high", func(s *api.Surf) { s.Waves[n] = span(10, 11) })
		add("all waves too high", func(s *api.Surf) { s.Waves[n] = span(11, 11) })
	}
	for _, hut := range []int{0, 2} {
		for _, n := range []int{low, -1, high} {
			add("floor", func(s *api.Surf) { s.Huts[hut].Floor = n })
			add("brake", func(s *api.Surf) { s.Huts[hut].Brake = n })
			add("row", func(s *api.Surf) { s.Huts[hut].Row = n })
		}
		add("floor 41", func(s *api.Surf) { s.Huts[hut].Floor = 41 })
		add("brake 11", func(s *api.Surf) { s.Huts[hut].Brake = 11 })
		add("row 3", func(s *api.Surf) { s.Huts[hut].Row = 3 })
	}
	return list
}

// limits are surfs that go as far as they may; each has a hut.
func limits() []named {
	five := slices.Repeat([]api.SurfHut{hut(40, 10, 5)}, 5)
	eight := slices.Repeat([]api.Span{span(0, 3)}, 8)
	return []named{
		{"least", surfOf(1, 0, nil, nil, hut(0, 0, 0))}, {"empty", surfOf(1, 0, []api.Span{}, []api.Span{}, hut(0, 0, 0))},
		{"greatest", surfOf(6, 4, slices.Repeat([]api.Span{span(27, 30)}, 8), slices.Repeat([]api.Span{span(7, 10)}, 8), five...)},
		{"widest", surfOf(6, 0, eight, eight, five...)}, {"widest of all", widest()}, {"highest", surfOf(1, 4, spans(30), spans(10), hut(40, 10, 0))}, {"lowest", surfOf(1, 0, spans(0), spans(0), hut(0, 0, 0))},
	}
}

// ErrArg comes first, whatever else is wrong, and with it there is no other result.
func TestInvalidSurfs(t *testing.T) {
	for i, x := range invalid() {
		for _, f := range calls() {
			for _, n := range []int{math.MinInt, -1, 0, 1, 9, math.MaxInt} {
				if e, zero := f.do(x.s, n, n); e != api.ErrArg || !zero {
					t.Error(i, x.name, f.name, n, e, zero)
				}
			}
		}
	}
}

func TestLimitsAreValid(t *testing.T) {
	for _, x := range limits() {
		for _, f := range calls() {
			e, _ := f.do(x.s, 0, 0)
			noHour := len(x.s.Water) == 0 && (f.uses == hourAndRow || f.uses == hutAndHour)
			if noHour && e != api.ErrRange || !noHour && e != api.OK && (e != api.ErrNone || f.name != "Before") {
				t.Error(x.name, f.name, e)
			}
		}
		last := len(x.s.Water) - 1
		if d, e := surf.Depth(x.s, last, x.s.Rows-1); last >= 0 && (d.Hi < d.Lo || e != api.OK) {
			t.Error(x.name, d, e)
		}
	}
}

// ErrRange comes just beyond the bounds of each argument.
func TestRanges(t *testing.T) {
	const low, high = math.MinInt, math.MaxInt
	s := surfS()
	good := map[argument][][2]int{
		hourAndRow: {{0, 0}, {3, 2}, {0, 2}, {3, 0}}, hutAndHour: {{0, 0}, {2, 3}, {0, 3}, {2, 0}}, aHut: {{0, 0}, {1, 0}}, howMany: {{0, 0}, {5, 0}, {4, 0}},
	}
	bad := map[argument][][2]int{
		hourAndRow: {{-1, 0}, {4, 0}, {low, 0}, {high, 0}, {0, -1}, {0, 3}, {0, low}, {0, high}, {4, 3}},
		hutAndHour: {{-1, 0}, {3, 0}, {low, 0}, {high, 0}, {0, -1}, {0, 4}, {0, low}, {0, high}, {3, 4}},
		aHut:       {{-1, 0}, {3, 0}, {5, 0}, {low, 0}, {high, 0}},
		howMany:    {{-1, 0}, {6, 0}, {low, 0}, {high, 0}},
	}
	for _, f := range calls() {
		for _, x := range good[f.uses] {
			if e, _ := f.do(s, x[0], x[1]); e != api.OK {
				t.Error(f.name, x, e)
			}
		}
		for _, x := range bad[f.uses] {
			if e, zero := f.do(s, x[0], x[1]); e != api.ErrRange || !zero {
				t.Error(f.name, x, e, zero)
			}
		}
		// Of a hut that is none there is no error of a hut that does not float.
		if e, zero := f.do(rising(8), 0, 0); (f.uses == aHut || f.uses == hutAndHour) && (e != api.ErrRange || !zero) {
			t.Error(f.name, "no huts", e)
		}
		if e, zero := f.do(rising(0), 0, 0); f.uses == hourAndRow && (e != api.ErrRange || !zero) {
			t.Error(f.name, "no hours", e)
		}
	}
}

// P4.8 and R4: no argument is changed, nor what lies behind it in memory, and a result is new memory.
func TestMemory(t *testing.T) {
	for _, s := range []api.Surf{surfS(), widest(), rising(4, hut(1, 1, 0), hut(3, 0, 0), hut(2, 0, 0))} {
		water, waves, huts := append(slices.Clone(s.Water), span(1, 2)), append(slices.Clone(s.Waves), span(0, 1)), append(slices.Clone(s.Huts), hut(1, 2, 0))
		x := s
		x.Water, x.Waves, x.Huts = water[:len(s.Water)], waves[:len(s.Waves)], huts[:len(s.Huts)]
		for _, f := range calls() {
			for n := range 3 {
				f.do(x, n, n)
				if !slices.Equal(water, append(slices.Clone(s.Water), span(1, 2))) || !slices.Equal(waves, append(slices.Clone(s.Waves), span(0, 1))) || !slices.Equal(huts, append(slices.Clone(s.Huts), hut(1, 2, 0))) {
					t.Fatal(f.name, x)
				}
			}
		}
		for many := range 3 {
			list, _, _ := surf.Save(x, many)
			same := slices.Clone(list)
			for i := range list {
				list[i] = 77
			}
			_ = append(list, 78, 79)
			if again, _, e := surf.Save(x, many); !slices.Equal(again, same) || e != api.OK {
				t.Error(many, again, same, e)
			}
		}
	}
}

// Nothing is kept from call to call: after a call with an error, or with another surf, all is as it was.
func TestCallsKnowNothingOfOneAnother(t *testing.T) {
	for range 2 {
		TestExamples(t)
		for _, f := range calls() {
			f.do(api.Surf{}, -1, -1)
			f.do(rising(8), 9, 9)
			f.do(widest(), 4, 3)
		}
	}
}
