package towel_test

import (
	"math"
	"slices"
	"testing"

	"dipworks/api"
	"dipworks/towel"
)

func span(lo, hi int) api.Span { return api.Span{Lo: lo, Hi: hi} }

// bather is one of a hut and a half hour, who was lent from a to b, and gave back from c to d.
func bather(hut, half, a, b, c, d int) api.TowelBather {
	return api.TowelBather{Hut: hut, Half: half, Lent: span(a, b), Back: span(c, d)}
}

// keeper is a bather who can have kept from lo to hi by own words.
func keeper(hut, half, lo, hi int) api.TowelBather { return bather(hut, half, hi, hi, 0, hi-lo) }

// spans are such from each number to the next one.
func spans(ends ...int) (l []api.Span) {
	for i := 0; i < len(ends); i += 2 {
		l = append(l, span(ends[i], ends[i+1]))
	}
	return l
}

// free is so many counts that say nothing.
func free(many int) []api.Span { return slices.Repeat([]api.Span{span(0, 24)}, many) }

// just is counts that are known exactly.
func just(l ...int) (counts []api.Span) {
	for _, n := range l {
		counts = append(counts, span(n, n))
	}
	return counts
}

func towels(huts, halves []api.Span, l ...api.TowelBather) api.Towels {
	return api.Towels{Huts: huts, Halves: halves, Bathers: l}
}

// towelsT and towelsN are those of the examples.
func towelsT() api.Towels {
	return towels(spans(2, 2, 1, 2), spans(1, 1, 2, 3), bather(0, 0, 2, 2, 1, 2), bather(0, 1, 2, 3, 1, 1), bather(1, 0, 1, 1, 0, 1), bather(1, 1, 3, 3, 0, 3))
}

func towelsN() api.Towels {
	t := towelsT()
	t.Halves = just(1, 5)
	return t
}

// ring is six bathers, each of whom shares a hut with one other and a half hour with another one, and can have kept all of four.
func ring(huts, halves []api.Span) api.Towels {
	return towels(huts, halves, keeper(0, 0, 0, 4), keeper(0, 1, 0, 4), keeper(1, 1, 0, 4), keeper(1, 2, 0, 4), keeper(2, 2, 0, 4), keeper(2, 0, 0, 4))
}

func TestExamples(t *testing.T) {
	x, n := towelsT(), towelsN()
	for b, want := range spans(0, 1, 1, 2, 0, 1, 0, 3) {
		for _, of := range []api.Towels{x, n} {
			if s, e := towel.Own(of, b); s != want || e != api.OK {
				t.Error("Own", b, s, e)
			}
		}
	}
	for b, want := range spans(0, 1, 1, 2, 0, 1, 0, 2) {
		if s, e := towel.Kept(x, b); s != want || e != api.OK {
			t.Error("Kept", b, s, e)
		}
	}
	if a, b, e := towel.Who(x); a != 2 || b != 15 || e != api.OK {
		t.Error("Who", a, b, e)
	}
	if s, e := towel.All(x); s != span(3, 4) || e != api.OK {
		t.Error("All", s, e)
	}
	for want, of := range map[int]api.Towels{4: x, 0: n} {
		if c, e := towel.Count(of); c != want || e != api.OK {
			t.Error("Count", c, e)
		}
	}
	if m, s, e := towel.Fewest(x); m != 2 || s != 6 || e != api.OK {
		t.Error("Fewest", m, s, e)
	}
	if b, m, e := towel.Search(x); b != 0 || m != 2 || e != api.OK {
		t.Error("Search", b, m, e)
	}
	if a, b, e := towel.Clash(n); a != 2 || b != 2 || e != api.OK {
		t.Error("Clash", a, b, e)
	}
	if a, b, e := towel.Clash(x); a != 0 || b != 0 || e != api.ErrNone {
		t.Error("Clash", a, b, e)
	}
	if s, e := towel.Kept(n, 0); s != span(0, 0) || e != api.ErrClash {
		t.Error("Kept", s, e)
	}
}

// P6.1: own words alone, to the ends of what can be lent and given back.
func TestOwn(t *testing.T) {
	for _, x := range [][6]int{
		{0, 0, 0, 0, 0, 0}, {4, 4, 0, 0, 4, 4}, {4, 4, 4, 4, 0, 0}, {0, 4, 0, 4, 0, 4}, {4, 4, 0, 4, 0, 4}, {0, 4, 0, 0, 0, 4},
		{0, 4, 4, 4, 0, 0}, {0, 0, 0, 4, 0, 0}, {1, 2, 2, 4, 0, 0}, {2, 2, 2, 2, 0, 0}, {2, 3, 1, 1, 1, 2}, {2, 4, 1, 3, 0, 3},
		{3, 4, 0, 1, 2, 4}, {3, 3, 1, 2, 1, 2}, {3, 4, 1, 2, 1, 3}, {2, 3, 2, 2, 0, 1}, {2, 3, 1, 2, 0, 2}, {1, 4, 2, 3, 0, 2},
	} {
		p := towels(just(9), just(0), bather(0, 0, x[0], x[1], x[2], x[3]))
		for range 2 {
			if s, e := towel.Own(p, 0); s != span(x[4], x[5]) || e != api.OK {
				t.Error(x, s, e)
			}
			// If counts say nothing all that is told is by own words.
			p.Huts, p.Halves = free(1), free(1)
			if s, e := towel.Kept(p, 0); s != span(x[4], x[5]) || e != api.OK {
				t.Error(x, "Kept", s, e)
			}
		}
	}
}

// P6.1: what counts leave of own words, also by way of others.
func TestKept(t *testing.T) {
	line := towels(just(4), free(3), keeper(0, 0, 0, 4), keeper(0, 1, 1, 2), keeper(0, 2, 0, 1))
	for i, x := range []struct {
		t    api.Towels
		want []api.Span
	}{
		{towels(spans(1, 3), free(1), keeper(0, 0, 0, 4)), spans(1, 3)}, {towels(free(1), spans(1, 3), keeper(0, 0, 0, 4)), spans(1, 3)}, {towels(spans(0, 3), spans(1, 24), keeper(0, 0, 0, 4)), spans(1, 3)},
		{towels(just(0), free(1), keeper(0, 0, 0, 4)), just(0)}, {towels(spans(4, 24), free(1), keeper(0, 0, 0, 4)), just(4)}, {towels(free(1), spans(4, 24), keeper(0, 0, 0, 4)), just(4)},
		{line, spans(1, 3, 1, 2, 0, 1)},
		{towels(free(3), just(4), keeper(0, 0, 0, 4), keeper(1, 0, 1, 2), keeper(2, 0, 0, 1)), spans(1, 3, 1, 2, 0, 1)},
		{towels(spans(6, 24), free(3), line.Bathers...), spans(3, 4, 1, 2, 0, 1)}, {towels(spans(7, 24), free(3), line.Bathers...), just(4, 2, 1)}, {towels(spans(0, 1), free(3), line.Bathers...), just(0, 1, 0)},
		// The first one's hut says what the second one kept, and this one's half hour what the third one did, and so on.
		{towels(just(5, 3, 0), spans(4, 4, 2, 24, 2, 2), keeper(0, 0, 0, 4), keeper(0, 1, 0, 4), keeper(1, 1, 0, 4), keeper(1, 2, 0, 4), keeper(2, 2, 0, 4), keeper(2, 0, 0, 4)), just(4, 1, 1, 2, 0, 0)},
		{ring(just(8, 8, 8), free(3)), just(4, 4, 4, 4, 4, 4)}, {ring(free(3), just(0, 0, 0)), just(0, 0, 0, 0, 0, 0)},
		{ring(just(4, 4, 4), just(4, 4, 4)), spans(0, 4, 0, 4, 0, 4, 0, 4, 0, 4, 0, 4)}, {ring(just(4, 5, 4), just(4, 4, 5)), spans(1, 4, 0, 3, 1, 4, 1, 4, 1, 4, 0, 3)},
		// A hut of nobody, of which nothing is missing.
		{towels(spans(0, 2, 3, 3), free(1), keeper(1, 0, 0, 4)), just(3)},
		// Another hut, and another half hour.
		{towels(spans(0, 24, 2, 2), spans(1, 1, 0, 24), keeper(0, 0, 0, 4), keeper(0, 1, 0, 4), keeper(1, 1, 0, 4)), spans(1, 1, 0, 4, 2, 2)},
	} {
		for b, want := range x.want {
			if s, e := towel.Kept(x.t, b); s != want || e != api.OK {
				t.Error(i, b, s, e, want)
			}
		}
	}
}

// P6.2, P6.3, P6.4 and P6.5, of towels that have a truth.
func TestTold(t *testing.T) {
	for i, x := range []struct {
		t               api.Towels
		surely, perhaps int
		all             api.Span
		count           int
		many, few       int
		whom, left      int // No left: there is one truth alone.
	}{
		{api.Towels{}, 0, 0, span(0, 0), 1, 0, 0, 0, 0},
		{towels(free(3), free(3)), 0, 0, span(0, 0), 1, 0, 0, 0, 0}, {towels(just(0, 0), free(1)), 0, 0, span(0, 0), 1, 0, 0, 0, 0},
		{towels(free(1), free(1), keeper(0, 0, 0, 0)), 0, 0, span(0, 0), 1, 0, 0, 0, 0}, {towels(free(1), free(1), keeper(0, 0, 0, 1)), 0, 1, span(0, 1), 2, 0, 0, 0, 1},
		{towels(free(1), free(1), keeper(0, 0, 1, 2)), 1, 1, span(1, 2), 2, 1, 1, 0, 1}, {towels(free(1), free(1), keeper(0, 0, 0, 4)), 0, 1, span(0, 4), 5, 0, 0, 0, 1},
		// Whether lent less given back is the same of several does not make several truths.
		{towels(free(1), free(1), bather(0, 0, 0, 4, 0, 4)), 0, 1, span(0, 4), 5, 0, 0, 0, 1}, {towels(free(1), free(1), bather(0, 0, 1, 2, 1, 2)), 0, 1, span(0, 1), 2, 0, 0, 0, 1},
		// One hut of two: surely, perhaps, and together.
		{towels(just(4), free(2), keeper(0, 0, 0, 4), keeper(0, 1, 0, 4)), 0, 3, span(4, 4), 5, 1, 1, 0, 1},
		{towels(just(5), free(2), keeper(0, 0, 0, 4), keeper(0, 1, 0, 4)), 3, 3, span(5, 5), 4, 2, 3, 0, 1},
		{towels(just(4), free(2), keeper(0, 0, 0, 3), keeper(0, 1, 0, 4)), 2, 3, span(4, 4), 4, 1, 2, 0, 1},
		{towels(spans(0, 1), free(2), keeper(0, 0, 0, 4), keeper(0, 1, 0, 4)), 0, 3, span(0, 1), 3, 0, 0, 0, 2},
		{towels(just(0), free(2), keeper(0, 0, 0, 4), keeper(0, 1, 0, 4)), 0, 0, span(0, 0), 1, 0, 0, 0, 0},
		{towels(just(8), free(2), keeper(0, 0, 0, 4), keeper(0, 1, 0, 4)), 3, 3, span(8, 8), 1, 2, 3, 0, 0},
		// The fewest, of several the least set: but the fewest first.
		{towels(just(2), free(3), keeper(0, 0, 0, 1), keeper(0, 1, 0, 2), keeper(0, 2, 0, 2)), 0, 7, span(2, 2), 5, 1, 2, 1, 2},
		{towels(just(5), free(3), keeper(0, 0, 0, 4), keeper(0, 1, 0, 1), keeper(0, 2, 0, 4)), 0, 7, span(5, 5), 9, 2, 3, 0, 2},
		{towels(just(5), free(3), keeper(0, 0, 0, 3), keeper(0, 1, 0, 1), keeper(0, 2, 0, 4)), 4, 7, span(5, 5), 7, 2, 5, 0, 2},
		{towels(just(4), free(3), keeper(0, 0, 0, 2), keeper(0, 1, 0, 2), keeper(0, 2, 0, 4)), 0, 7, span(4, 4), 9, 1, 4, 0, 3},
		{towels(just(6), free(3), keeper(0, 0, 0, 2), keeper(0, 1, 0, 2), keeper(0, 2, 0, 2)), 7, 7, span(6, 6), 1, 3, 7, 0, 0},
		// Whom to search: by the greatest number, not by how many there are; the first one of several.
		{towels(free(1), free(2), keeper(0, 0, 0, 1), keeper(0, 1, 0, 3)), 0, 3, span(0, 4), 8, 0, 0, 1, 2}, {towels(free(1), free(2), keeper(0, 0, 0, 3), keeper(0, 1, 0, 3)), 0, 3, span(0, 6), 16, 0, 0, 0, 4},
		{towels(free(1), free(2), keeper(0, 0, 2, 2), keeper(0, 1, 0, 1)), 1, 3, span(2, 3), 2, 1, 1, 1, 1},
		{towels(spans(0, 2), free(3), keeper(0, 0, 0, 2), keeper(0, 1, 0, 1), keeper(0, 2, 0, 1)), 0, 7, span(0, 2), 8, 0, 0, 0, 4},
		{towels(spans(0, 2), free(3), keeper(0, 0, 0, 1), keeper(0, 1, 0, 1), keeper(0, 2, 0, 2)), 0, 7, span(0, 2), 8, 0, 0, 2, 4},
		// As many as there may be.
		{ring(free(3), free(3)), 0, 63, span(0, 24), 15625, 0, 0, 0, 3125}, {ring(free(3), just(0, 0, 0)), 0, 0, span(0, 0), 1, 0, 0, 0, 0}, {ring(just(8, 8, 8), free(3)), 63, 63, span(24, 24), 1, 6, 63, 0, 0},
		{ring(just(4, 4, 4), just(4, 4, 4)), 0, 63, span(12, 12), 5, 3, 21, 0, 1}, {ring(just(4, 4, 4), free(3)), 0, 63, span(12, 12), 125, 3, 21, 0, 25},
		{ring(free(3), just(8, 4, 0)), 33, 39, span(12, 12), 5, 3, 35, 1, 1},
	} {
		if a, b, e := towel.Who(x.t); a != x.surely || b != x.perhaps || e != api.OK {
			t.Error(i, "Who", a, b, e)
		}
		if s, e := towel.All(x.t); s != x.all || e != api.OK {
			t.Error(i, "All", s, e)
		}
		if n, e := towel.Count(x.t); n != x.count || e != api.OK {
			t.Error(i, "Count", n, e)
		}
		if n, s, e := towel.Fewest(x.t); n != x.many || s != x.few || e != api.OK {
			t.Error(i, "Fewest", n, s, e)
		}
		want := api.OK
		if x.left == 0 {
			want = api.ErrRefuse
		}
		if b, n, e := towel.Search(x.t); b != x.whom || n != x.left || e != want {
			t.Error(i, "Search", b, n, e)
		}
		if a, b, e := towel.Clash(x.t); a != 0 || b != 0 || e != api.ErrNone {
			t.Error(i, "Clash", a, b, e)
		}
	}
}

// P6.6: the fewest, of these the least set of huts, then the least one of half hours.
func TestClash(t *testing.T) {
	square := []api.TowelBather{keeper(0, 0, 0, 4), keeper(0, 1, 0, 4), keeper(1, 0, 0, 4), keeper(1, 1, 0, 4)}
	for i, x := range []struct {
		t            api.Towels
		huts, halves int
	}{
		// One count alone: too many, too few, or of nobody.
		{towels(just(0), free(1), keeper(0, 0, 1, 4)), 1, 0}, {towels(spans(5, 24), free(1), keeper(0, 0, 1, 4)), 1, 0}, {towels(free(1), just(0), keeper(0, 0, 1, 4)), 0, 1}, {towels(free(1), spans(5, 24), keeper(0, 0, 1, 4)), 0, 1},
		{towels(just(1), nil), 1, 0}, {towels(nil, spans(1, 24)), 0, 1}, {towels(spans(0, 0, 0, 1, 1, 1), free(3)), 4, 0}, {towels(free(3), spans(0, 24, 3, 4, 0, 0)), 0, 2},
		{towels(just(0, 0), free(2), keeper(1, 0, 0, 1), keeper(1, 1, 1, 2)), 2, 0}, {towels(spans(0, 24, 4, 24), free(2), keeper(1, 0, 0, 1), keeper(1, 1, 1, 2)), 2, 0},
		// Of several the least set of huts, which is that of none.
		{towels(just(9), just(9), keeper(0, 0, 0, 4)), 0, 1}, {towels(just(9, 9), just(4), keeper(0, 0, 0, 4)), 1, 0}, {towels(just(4, 9, 9), free(3), keeper(0, 0, 0, 4)), 2, 0}, {towels(free(1), just(4, 9, 9), keeper(0, 0, 0, 4)), 0, 2}, {towels(just(0, 9, 9), just(0, 0, 9), keeper(0, 0, 0, 4)), 0, 4},
		// Two of which each one can be right.
		{towels(just(1), just(2), keeper(0, 0, 0, 3)), 1, 1}, {towels(spans(0, 1), spans(2, 4), keeper(0, 0, 0, 3)), 1, 1}, {towels(spans(3, 4), spans(0, 2), keeper(0, 0, 0, 3)), 1, 1},
		{towels(just(0, 4), just(4, 0), keeper(0, 0, 0, 4), keeper(1, 1, 0, 4)), 1, 1}, {towels(just(4, 0), just(1, 4), keeper(0, 1, 0, 4), keeper(1, 0, 0, 3)), 2, 1}, {towels(just(0, 3), just(3, 4), keeper(0, 1, 0, 4), keeper(1, 0, 0, 3)), 1, 2},
		{towels(just(1), just(2, 0), keeper(0, 0, 0, 3)), 1, 1}, {towels(just(1, 0), just(0, 2), keeper(0, 1, 0, 3)), 1, 2}, {towels(free(2), just(0, 2), keeper(0, 0, 0, 3)), 0, 2},
		// One is fewer than two, whatever their numbers are.
		{towels(just(1, 0, 9), just(2), keeper(0, 0, 0, 3)), 4, 0}, {towels(just(1), just(2, 0, 9), keeper(0, 0, 0, 3)), 0, 4},
		// Three: a hut and its two half hours, or the other way round.
		{towels(just(3), just(1, 1), keeper(0, 0, 0, 4), keeper(0, 1, 0, 4)), 1, 3}, {towels(just(1, 1), just(3), keeper(0, 0, 0, 4), keeper(1, 0, 0, 4)), 3, 1}, {towels(just(2), just(1, 1), keeper(0, 0, 0, 4), keeper(0, 1, 0, 2)), 0, 0},
		// Four of four, five of five, six of six.
		{towels(just(4, 4), just(4, 5), square...), 3, 3}, {towels(just(4, 4), just(4, 3), square...), 3, 3},
		{towels(spans(4, 5, 4, 5), spans(5, 6, 6, 7), square...), 3, 3}, {towels(spans(4, 5, 4, 5), spans(4, 6, 6, 7), square...), 0, 0},
		{towels(just(4, 4, 2), just(4, 5), append(slices.Clone(square), keeper(2, 1, 0, 4))...), 7, 3}, {towels(just(4, 4, 1), just(4, 5), append(slices.Clone(square), keeper(2, 1, 0, 4))...), 0, 0},
		{ring(just(4, 4, 4), just(4, 4, 5)), 7, 7}, {ring(just(4, 4, 4), just(4, 4, 3)), 7, 7}, {ring(just(4, 4, 9), just(4, 4, 3)), 4, 0}, {ring(just(0, 8, 4), just(4, 8, 0)), 1, 2}, {ring(just(24, 24, 24), just(24, 24, 24)), 0, 1},
	} {
		want := api.OK
		if x.huts == 0 && x.halves == 0 {
			want = api.ErrNone
		}
		if a, b, e := towel.Clash(x.t); a != x.huts || b != x.halves || e != want {
			t.Error(i, a, b, e)
		}
	}
}

// call is a call of one of the functions: its error, and all other results.
type call struct {
	name      string
	ofOne     bool // Whether it is a bather's.
	noClashes bool // Whether it has a result also if there is no truth.
	do        func(t api.Towels, bather int) (api.Errno, [2]int)
}

// zero is what a call returns besides an error.
var zero [2]int

func calls() []call {
	ends := func(s api.Span, e api.Errno) (api.Errno, [2]int) { return e, [2]int{s.Lo, s.Hi} }
	both := func(n, m int, e api.Errno) (api.Errno, [2]int) { return e, [2]int{n, m} }
	return []call{
		{"Own", true, true, func(t api.Towels, b int) (api.Errno, [2]int) { return ends(towel.Own(t, b)) }},
		{"Kept", true, false, func(t api.Towels, b int) (api.Errno, [2]int) { return ends(towel.Kept(t, b)) }},
		{"Who", false, false, func(t api.Towels, _ int) (api.Errno, [2]int) { return both(towel.Who(t)) }},
		{"All", false, false, func(t api.Towels, _ int) (api.Errno, [2]int) { return ends(towel.All(t)) }},
		{"Count", false, true, func(t api.Towels, _ int) (api.Errno, [2]int) {
			n, e := towel.Count(t)
			return e, [2]int{n}
		}},
		{"Fewest", false, false, func(t api.Towels, _ int) (api.Errno, [2]int) { return both(towel.Fewest(t)) }},
		{"Search", false, false, func(t api.Towels, _ int) (api.Errno, [2]int) { return both(towel.Search(t)) }},
		{"Clash", false, true, func(t api.Towels, _ int) (api.Errno, [2]int) { return both(towel.Clash(t)) }},
	}
}

// named is towels with a name.
type named struct {
	name string
	t    api.Towels
}

// invalid are towels that are not valid, each for one reason.
func invalid() (list []named) {
	const low, high = math.MinInt, math.MaxInt
	add := func(name string, change func(t *api.Towels)) {
		x := towelsT()
		change(&x)
		list = append(list, named{name, x})
	}
	for _, s := range spans(1, 0, 24, 23, -1, 0, -1, -1, 0, 25, 24, 25, 25, 25, 0, -1, 25, 24, low, 0, low, low, 0, high, high, high, low, high, high, low, high, 0, 2, low) {
		add("hut", func(t *api.Towels) { t.Huts[1] = s })
		add("half", func(t *api.Towels) { t.Halves[0] = s })
		add("hut alone", func(t *api.Towels) { *t = towels([]api.Span{s}, nil) })
		add("half alone", func(t *api.Towels) { *t = towels(nil, []api.Span{s}) })
	}
	for _, s := range spans(1, 0, 4, 3, -1, 0, -1, -1, 0, 5, 4, 5, 5, 5, 0, -1, 5, 4, low, 0, low, low, 0, high, high, high, low, high, high, low, high, 0, 2, low) {
		for _, n := range []int{0, 3} {
			add("lent", func(t *api.Towels) { t.Bathers[n].Lent, t.Bathers[n].Back = s, span(0, 0) })
			add("back", func(t *api.Towels) { t.Bathers[n].Lent, t.Bathers[n].Back = span(4, 4), s })
		}
	}
	for _, x := range [][4]int{{0, 0, 1, 1}, {0, 3, 4, 4}, {2, 2, 3, 4}, {1, 2, 3, 3}, {0, 0, 4, 4}} {
		add("more back than lent", func(t *api.Towels) { t.Bathers[2] = bather(1, 0, x[0], x[1], x[2], x[3]) })
	}
	for _, n := range []int{low, -1, 2, 3, high} {
		add("no such hut", func(t *api.Towels) { t.Bathers[1].Hut = n })
		add("no such half", func(t *api.Towels) { t.Bathers[1].Half = n })
	}
	add("no hut", func(t *api.Towels) { *t = towels(nil, free(1), keeper(0, 0, 0, 0)) })
	add("no half", func(t *api.Towels) { *t = towels(free(1), nil, keeper(0, 0, 0, 0)) })
	add("four huts", func(t *api.Towels) { t.Huts = append(t.Huts, free(2)...) })
	add("four halves", func(t *api.Towels) { t.Halves = append(t.Halves, free(2)...) })
	add("four huts of nobody", func(t *api.Towels) { *t = towels(free(4), nil) })
	add("seven bathers", func(t *api.Towels) { *t = ring(free(3), free(3)); t.Bathers = append(t.Bathers, keeper(0, 2, 0, 0)) })
	for _, two := range [][2]int{{0, 1}, {0, 5}, {2, 3}, {4, 5}, {1, 4}} {
		add("two together", func(t *api.Towels) {
			*t = ring(free(3), free(3))
			t.Bathers[two[0]].Hut, t.Bathers[two[0]].Half = t.Bathers[two[1]].Hut, t.Bathers[two[1]].Half
		})
	}
	return list
}

// limits are towels that go as far as they may.
func limits() []named {
	return []named{
		{"nothing", api.Towels{}}, {"empty", api.Towels{Bathers: []api.TowelBather{}, Huts: []api.Span{}, Halves: []api.Span{}}}, {"huts alone", towels(free(3), nil)}, {"halves alone", towels(nil, free(3))},
		{"six bathers", ring(free(3), free(3))}, {"the most that is missing", towels(just(24), just(24), keeper(0, 0, 0, 0))}, {"the most that is lent and given back", towels(free(1), free(1), bather(0, 0, 4, 4, 4, 4))},
		{"back just as lent", towels(free(1), free(1), bather(0, 0, 0, 2, 2, 4))}, {"a row", towels(free(1), free(3), keeper(0, 2, 0, 4), keeper(0, 0, 0, 4), keeper(0, 1, 0, 4))},
	}
}

// ErrArg comes first, whatever else is wrong, and with it there is no other result.
func TestInvalidTowels(t *testing.T) {
	for i, x := range invalid() {
		for _, f := range calls() {
			for _, n := range []int{math.MinInt, -1, 0, 3, 9, math.MaxInt} {
				if e, other := f.do(x.t, n); e != api.ErrArg || other != zero {
					t.Error(i, x.name, f.name, n, e, other)
				}
			}
		}
	}
}

func TestLimitsAreValid(t *testing.T) {
	for _, x := range limits() {
		for _, f := range calls() {
			if e, _ := f.do(x.t, len(x.t.Bathers)-1); e == api.ErrArg || e == api.ErrRange != (f.ofOne && len(x.t.Bathers) == 0) {
				t.Error(x.name, f.name, e)
			}
		}
	}
}

// ErrRange comes just beyond the bathers, also if there is no truth; within them there is ErrClash then, but not of all functions.
func TestRangesAndClashes(t *testing.T) {
	for _, f := range calls() {
		for n := range 4 {
			if e, _ := f.do(towelsT(), n); e != api.OK && (f.name != "Clash" || e != api.ErrNone) {
				t.Error(f.name, n, e)
			}
			if e, other := f.do(towelsN(), n); f.noClashes && e != api.OK || !f.noClashes && (e != api.ErrClash || other != zero) {
				t.Error(f.name, n, "clash", e, other)
			}
		}
		for _, n := range []int{math.MinInt, -2, -1, 4, 5, math.MaxInt} {
			for _, x := range []api.Towels{towelsT(), towelsN()} {
				if e, other := f.do(x, n); f.ofOne && (e != api.ErrRange || other != zero) || !f.ofOne && e == api.ErrRange {
					t.Error(f.name, n, e, other)
				}
			}
		}
		if e, _ := f.do(towels(just(1), nil), 0); f.ofOne && e != api.ErrRange {
			t.Error(f.name, "no bathers", e)
		}
	}
}

// P6.7 and R4: no argument is changed, nor what lies behind it in memory.
func TestMemory(t *testing.T) {
	for _, x := range []api.Towels{towelsT(), towelsN(), ring(just(4, 4, 4), just(4, 4, 5)), ring(just(4, 4, 4), just(4, 4, 4))} {
		bathers, huts, halves := append(slices.Clone(x.Bathers), keeper(7, 8, 1, 2)), append(slices.Clone(x.Huts), span(8, 9)), append(slices.Clone(x.Halves), span(6, 7))
		sameBathers, sameHuts, sameHalves := slices.Clone(bathers), slices.Clone(huts), slices.Clone(halves)
		x.Bathers, x.Huts, x.Halves = bathers[:len(x.Bathers)], huts[:len(x.Huts)], halves[:len(x.Halves)]
		for _, f := range calls() {
			for n := range x.Bathers {
				f.do(x, n)
				if !slices.Equal(bathers, sameBathers) || !slices.Equal(huts, sameHuts) || !slices.Equal(halves, sameHalves) {
					t.Fatal(f.name, bathers, huts, halves)
				}
			}
		}
	}
}

// Nothing is kept from call to call: after a call with an error, or of other towels, all is as it was.
func TestCallsKnowNothingOfOneAnother(t *testing.T) {
	for range 2 {
		TestExamples(t)
		for _, f := range calls() {
			f.do(towels(free(4), nil), -1)
			f.do(towelsN(), 0)
			f.do(ring(free(3), free(3)), 9)
			f.do(ring(just(4, 4, 4), just(4, 4, 5)), 5)
		}
	}
}
