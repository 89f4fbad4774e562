package rail_test

import (
	"math/rand/v2"
	"slices"

	"dipworks/api"
)

// What the chapter says, written out for one truth after the other.

// day is in which hours it rains, and how wet each line is.
type day struct {
	rain int
	wet  []int
}

// days are all weathers, with each way in which lines can be wet.
func days(r api.Rail) (list []day) {
	for some := range 1 << r.Hours {
		if some&^r.Perhaps != 0 {
			continue
		}
		ways := [][]int{nil}
		for _, l := range r.Lines {
			var longer [][]int
			for _, x := range ways {
				for wet := l.Wet.Lo; wet <= l.Wet.Hi; wet++ {
					longer = append(longer, append(slices.Clone(x), wet))
				}
			}
			ways = longer
		}
		for _, wet := range ways {
			list = append(list, day{r.Rain | some, wet})
		}
	}
	return list
}

// dries is by how much an hour dries a towel.
func (d day) dries(r api.Rail, hour int) int {
	if d.rain>>hour&1 == 1 {
		return 0
	}
	if r.Sun>>hour&1 == 1 {
		return 2
	}
	return 1
}

// isDry is whether a towel that hangs from an hour on, and is so wet, is dry at another one.
func (d day) isDry(r api.Rail, wet, at, hour int) bool {
	for h := at; h < hour; h++ {
		wet -= d.dries(r, h)
	}
	return at <= hour && wet <= 0
}

// dryAt is when a line first is dry, or -1.
func (d day) dryAt(r api.Rail, line int) int {
	for hour := range r.Hours + 1 {
		if d.isDry(r, d.wet[line], r.Lines[line].At, hour) {
			return hour
		}
	}
	return -1
}

// towels is how many are on lines that are not dry at an hour.
func (d day) towels(r api.Rail, hour int) (many int) {
	for n, l := range r.Lines {
		if !d.isDry(r, d.wet[n], l.At, hour) {
			many += l.Many
		}
	}
	return many
}

// keeps are all truths of the towels: how many each bather has kept.
func keeps(t api.Towels) (list [][]int) {
	ways := [][]int{nil}
	for _, b := range t.Bathers {
		var longer [][]int
		for n := range 5 {
			can := false
			for lent := b.Lent.Lo; lent <= b.Lent.Hi; lent++ {
				can = can || b.Back.Lo <= lent-n && lent-n <= b.Back.Hi
			}
			for _, x := range ways {
				if can {
					longer = append(longer, append(slices.Clone(x), n))
				}
			}
		}
		ways = longer
	}
	for _, x := range ways {
		if isCounted(t, x) {
			list = append(list, x)
		}
	}
	return list
}

// isCounted is whether all counts are right.
func isCounted(t api.Towels, kept []int) bool {
	huts, halves := make([]int, len(t.Huts)), make([]int, len(t.Halves))
	for b, n := range kept {
		huts[t.Bathers[b].Hut] += n
		halves[t.Bathers[b].Half] += n
	}
	return slices.EqualFunc(huts, t.Huts, isIn) && slices.EqualFunc(halves, t.Halves, isIn)
}

func isIn(n int, s api.Span) bool { return s.Lo <= n && n <= s.Hi }

// truth is a day, and how many towels all bathers have kept on it.
type truth struct {
	day
	kept int
}

// truths are all of them.
func truths(r api.Rail) (list []truth) {
	sums := map[int]bool{}
	for _, x := range keeps(r.Towels) {
		sum := 0
		for _, n := range x {
			sum += n
		}
		sums[sum] = true
	}
	for _, d := range days(r) {
		for sum := range sums {
			list = append(list, truth{d, sum})
		}
	}
	return list
}

// atHand is how many towels are.
func (x truth) atHand(r api.Rail, hour int) int {
	many := r.Stock - x.kept - x.towels(r, hour)
	if many < 0 {
		return 0
	}
	return many
}

// spread is from the least to the greatest number of all truths.
func spread[T any](list []T, of func(x T) int) api.Span {
	s := span(of(list[0]), of(list[0]))
	for _, x := range list {
		s = span(min(s.Lo, of(x)), max(s.Hi, of(x)))
	}
	return s
}

// in is in how many of the truths something is so.
func in[T any](list []T, so func(x T) bool) (many int) {
	for _, x := range list {
		if so(x) {
			many++
		}
	}
	return many
}

// latest is the greatest hour from which on a towel hangs long enough in each truth, or -1.
func latest(r api.Rail, list []day, wet, at int) int {
	best := -1
	for from := range at {
		if in(list, func(d day) bool { return d.isDry(r, wet, from, at) }) == len(list) {
			best = from
		}
	}
	return best
}

// buy is by how much greater Stock has to be, tried one by one.
func buy(r api.Rail, list []truth, hour, many int) int {
	for more := 0; ; more++ {
		if in(list, func(x truth) bool { return x.atHand(r, hour) >= many }) == len(list) {
			return more
		}
		r.Stock++
	}
}

// Random rails are the same ones each time.
func source(n uint64) *rand.Rand { return rand.New(rand.NewPCG(n, 11)) }

func from(r *rand.Rand, lo, hi int) int { return lo + r.IntN(hi-lo+1) }

// around is a span around a number, so wide at most, within bounds.
func around(r *rand.Rand, n, wide, lo, hi int) api.Span {
	return span(max(lo, n-r.IntN(wide+1)), min(hi, n+r.IntN(wide+1)))
}

// someHours is a random set of hours, each one in it with a chance of one to so many.
func someHours(r *rand.Rand, hours, often int) (set int) {
	for hour := range hours {
		if r.IntN(often) == 0 {
			set |= 1 << hour
		}
	}
	return set
}

// someTowels is random towels of which all is right, and how many each bather has kept.
func someTowels(r *rand.Rand, wide int) (t api.Towels, kept []int) {
	huts, halves := from(r, 1, 3), from(r, 1, 3)
	t.Huts, t.Halves = make([]api.Span, huts), make([]api.Span, halves)
	inHuts, inHalves := make([]int, huts), make([]int, halves)
	for _, place := range r.Perm(huts * halves)[:min(r.IntN(7), huts*halves)] {
		back := r.IntN(4)
		n := r.IntN(5 - back)
		hut, half := place/halves, place%halves
		t.Bathers = append(t.Bathers, bather(hut, half, around(r, back+n, wide, 0, 4), around(r, back, wide, 0, 4)))
		kept = append(kept, n)
		inHuts[hut] += n
		inHalves[half] += n
	}
	for n, many := range inHuts {
		t.Huts[n] = around(r, many, wide+1, 0, 24)
	}
	for n, many := range inHalves {
		t.Halves[n] = around(r, many, wide+1, 0, 24)
	}
	return t, kept
}

// story is a random rail of so many hours and lines at most, all of which is right, the day, and what each bather has kept.
func story(r *rand.Rand, hours, lines int) (api.Rail, day, []int) {
	wide := []int{0, 1, 1, 2}[r.IntN(4)]
	x := api.Rail{Stock: from(r, 0, 60), Hours: from(r, 1, hours), Price: r.IntN(21)}
	if r.IntN(2) == 0 {
		x.Stock = from(r, 0, 20)
	}
	var kept []int
	x.Towels, kept = someTowels(r, wide)
	x.Sun, x.Rain = someHours(r, x.Hours, 3), someHours(r, x.Hours, 5)
	d := day{rain: x.Rain}
	x.Perhaps = someHours(r, x.Hours, 4)
	d.rain |= x.Perhaps & someHours(r, x.Hours, 2)
	for range r.IntN(lines + 1) {
		wet := 1 + min(r.IntN(8), r.IntN(8))
		d.wet = append(d.wet, wet)
		at := min(r.IntN(x.Hours), r.IntN(x.Hours))
		x.Lines = append(x.Lines, api.RailLine{Many: from(r, 1, 6), At: at, Wet: around(r, wet, wide, 1, 8)})
	}
	return x, d, kept
}

// anyRail is a random rail of so many hours and lines at most; sometimes the towels have no truth.
func anyRail(r *rand.Rand, hours, lines int) api.Rail {
	x, _, _ := story(r, hours, lines)
	if len(x.Towels.Bathers) > 0 && r.IntN(6) == 0 {
		n := r.IntN(len(x.Towels.Huts))
		lo := r.IntN(16)
		x.Towels.Huts[n] = span(lo, lo+r.IntN(3))
	}
	return x
}
