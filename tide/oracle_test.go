package tide_test

import (
	"math/bits"
	"math/rand/v2"
	"slices"
	"testing"

	"dipworks/api"
	"dipworks/tide"
)

// truth is one truth, written out whole.
type truth struct{ marks, sand []int }

// level is how high the water stands in a truth, by the words of the chapter.
func level(t api.Tide, x truth, m int) int {
	for i := range t.Marks {
		if t.Marks[i].Minute == m {
			return x.marks[i]
		}
	}
	i := 0
	for t.Marks[i+1].Minute < m {
		i++
	}
	a, b, h, k := t.Marks[i].Minute, t.Marks[i+1].Minute, x.marks[i], x.marks[i+1]
	q, r := 6*(m-a)/(b-a), 6*(m-a)%(b-a)
	f := 0
	for n, more := range []int{1, 2, 3, 3, 2, 1} {
		if n < q {
			f += more * (b - a)
		} else if n == q {
			f += more * r
		}
	}
	return (h*(12*(b-a)-f) + k*f) / (12 * (b - a))
}

func deep(t api.Tide, x truth, place, minute int) int {
	if n := level(t, x, minute) - x.sand[place]; n > 0 {
		return n
	}
	return 0
}

// truths are all truths of a tide: each combination of all spans' numbers in which each look is right.
func truths(t api.Tide) (list []truth) {
	var spans []api.Span
	for _, m := range t.Marks {
		spans = append(spans, m.Height)
	}
	spans = append(spans, t.Sand...)
	numbers := make([]int, len(spans))
	for i, s := range spans {
		numbers[i] = s.Lo
	}
	for {
		x := truth{numbers[:len(t.Marks)], numbers[len(t.Marks):]}
		if allRight(t, x) {
			list = append(list, truth{slices.Clone(x.marks), slices.Clone(x.sand)})
		}
		i := 0
		for ; i < len(spans); i++ {
			if numbers[i] < spans[i].Hi {
				numbers[i]++
				break
			}
			numbers[i] = spans[i].Lo
		}
		if i == len(spans) {
			return list
		}
	}
}

func allRight(t api.Tide, x truth) bool {
	for _, l := range t.Looks {
		if n := deep(t, x, l.Place, l.Minute); n < l.Depth.Lo || n > l.Depth.Hi {
			return false
		}
	}
	return true
}

// numbers are what a function says of each truth.
func numbers(all []truth, of func(truth) int) (list []int) {
	for _, x := range all {
		list = append(list, of(x))
	}
	return list
}

func ends(list []int) api.Span { return span(slices.Min(list), slices.Max(list)) }

// Random tides are the same ones each time.
func source(n uint64) *rand.Rand { return rand.New(rand.NewPCG(n, 1)) }

func from(r *rand.Rand, lo, hi int) int { return lo + r.IntN(hi-lo+1) }

// narrow is a span of at most three numbers near n.
func narrow(r *rand.Rand, n int) api.Span {
	lo := max(0, n-r.IntN(3))
	return span(lo, min(60, lo+r.IntN(3)))
}

// shape is a tide without looks.
func shape(r *rand.Rand) api.Tide {
	var t api.Tide
	minute := from(r, 0, 20)
	for range from(r, 2, 4) {
		t.Marks = append(t.Marks, api.TideMark{Minute: minute, Height: narrow(r, r.IntN(16))})
		minute += from(r, 6, 30)
	}
	for range from(r, 1, 4) {
		t.Sand = append(t.Sand, narrow(r, r.IntN(12)))
	}
	return t
}

// minutes are the first and the last minute.
func minutes(t api.Tide) (first, last int) {
	return t.Marks[0].Minute, t.Marks[len(t.Marks)-1].Minute
}

// trueLook is a look that is right in a truth.
func trueLook(r *rand.Rand, t api.Tide, x truth) api.TideLook {
	first, last := minutes(t)
	place, minute := r.IntN(len(t.Sand)), from(r, first, last)
	n := deep(t, x, place, minute)
	return look(place, minute, max(0, n-r.IntN(2)), min(60, n+r.IntN(2)))
}

// looked is a tide with looks that are all right in the truth that is returned.
func looked(r *rand.Rand, most int) (api.Tide, truth) {
	t := shape(r)
	all := truths(t)
	x := all[r.IntN(len(all))]
	for range r.IntN(most + 1) {
		t.Looks = append(t.Looks, trueLook(r, t, x))
	}
	return t, x
}

// wild is a tide with looks of several truths, which often cannot all be right.
func wild(r *rand.Rand) api.Tide {
	t := shape(r)
	all := truths(t)
	for range r.IntN(api.TideLooks + 1) {
		t.Looks = append(t.Looks, trueLook(r, t, all[r.IntN(len(all))]))
	}
	return t
}

// P1.1 to P1.7, of many tides, against all truths.
func TestAgainstAllTruths(t *testing.T) {
	clashes := 0
	for seed := range uint64(120) {
		r := source(seed)
		x := wild(r)
		all := truths(x)
		if n, e := tide.Count(x); n != len(all) || e != api.OK {
			t.Error(seed, "Count", n, e, len(all))
		}
		if len(all) == 0 {
			clashes++
			checkClash(t, x)
			continue
		}
		if n, e := tide.Clash(x); n != 0 || e != api.ErrNone {
			t.Error(seed, "Clash", n, e)
		}
		first, last := minutes(x)
		for place := range x.Sand {
			want := ends(numbers(all, func(y truth) int { return y.sand[place] }))
			if s, e := tide.Sand(x, place); s != want || e != api.OK {
				t.Error(seed, "Sand", s, e, want)
			}
			checkServed(t, x, all, place, r.IntN(5), r.IntN(12))
		}
		for range 5 {
			checkMinute(t, x, all, from(r, first, last), r.IntN(5), r.IntN(8))
		}
	}
	if clashes < 10 || clashes > 110 {
		t.Error("the tides test one case only", clashes)
	}
}

// checkMinute looks at Height, Depth, Places and Next.
func checkMinute(t *testing.T, x api.Tide, all []truth, minute, least, most int) {
	want := ends(numbers(all, func(y truth) int { return level(x, y, minute) }))
	if s, e := tide.Height(x, minute); s != want || e != api.OK {
		t.Error("Height", x, minute, s, e, want)
	}
	surely, perhaps, next, left := 0, 0, -1, 0
	for place := range x.Sand {
		list := numbers(all, func(y truth) int { return deep(x, y, place, minute) })
		if s, e := tide.Depth(x, place, minute); s != ends(list) || e != api.OK {
			t.Error("Depth", x, place, minute, s, e, ends(list))
		}
		fits := func(n int) bool { return least <= n && n <= most }
		if slices.ContainsFunc(list, fits) {
			perhaps |= 1 << place
		}
		if !slices.ContainsFunc(list, func(n int) bool { return !fits(n) }) {
			surely |= 1 << place
		}
		if n := greatestShare(list); next < 0 || n < left {
			next, left = place, n
		}
	}
	if a, b, e := tide.Places(x, minute, least, most); a != surely || b != perhaps || e != api.OK {
		t.Error("Places", x, minute, a, b, e, surely, perhaps)
	}
	if p, n, e := tide.Next(x, minute); p != next || n != left || e != api.OK {
		t.Error("Next", x, minute, p, n, e, next, left)
	}
}

// greatestShare is how often the number is in the list that is in it most often.
func greatestShare(list []int) int {
	many, most := map[int]int{}, 0
	for _, n := range list {
		many[n]++
		most = max(most, many[n])
	}
	return most
}

// checkServed looks at Served and First.
func checkServed(t *testing.T, x api.Tide, all []truth, place, least, most int) {
	first, last := minutes(x)
	var served []int
	sure, perhaps := -1, -1
	for m := first; m <= last; m++ {
		s := ends(numbers(all, func(y truth) int { return deep(x, y, place, m) }))
		if least <= s.Lo && s.Hi <= most {
			served = append(served, m)
		}
		if sure < 0 && s.Lo >= least {
			sure = m
		}
		if perhaps < 0 && s.Hi >= least {
			perhaps = m
		}
	}
	l, e := tide.Served(x, place, least, most)
	if !slices.Equal(minutesOf(l), served) || e != api.OK {
		t.Error("Served", x, place, least, most, l, e, served)
	}
	for i := 1; i < len(l); i++ {
		if l[i].Lo <= l[i-1].Hi+1 {
			t.Error("Served: spans that could be one, or are not in order", l)
		}
	}
	checkFirst(t, x, place, least, true, sure)
	checkFirst(t, x, place, least, false, perhaps)
}

func checkFirst(t *testing.T, x api.Tide, place, least int, sure bool, want int) {
	first, _ := minutes(x)
	n, e := tide.First(x, place, least, first, sure)
	if want < 0 && (n != 0 || e != api.ErrNone) || want >= 0 && (n != want || e != api.OK) {
		t.Error("First", x, place, least, sure, n, e, want)
	}
}

// minutesOf are all minutes of spans.
func minutesOf(l []api.Span) (list []int) {
	for _, s := range l {
		for m := s.Lo; m <= s.Hi; m++ {
			list = append(list, m)
		}
	}
	return list
}

// checkClash looks at Clash, and at what all functions say if there is no truth.
func checkClash(t *testing.T, x api.Tide) {
	best := 0
	for set := 1; set < 1<<len(x.Looks); set++ {
		if best != 0 && bits.OnesCount(uint(set)) >= bits.OnesCount(uint(best)) {
			continue
		}
		if len(truths(with(x, set))) == 0 {
			best = set
		}
	}
	if n, e := tide.Clash(x); n != best || e != api.OK {
		t.Error("Clash", x, n, e, best)
	}
	first, _ := minutes(x)
	for _, f := range calls() {
		if e, zero := f.do(x, 0, first, 1); e != api.ErrClash && f.name != "Count" && f.name != "Clash" || e == api.ErrClash && !zero {
			t.Error(f.name, e, zero)
		}
	}
}

// with is a tide with those looks only that are in a set.
func with(x api.Tide, set int) api.Tide {
	var looks []api.TideLook
	for i, l := range x.Looks {
		if set>>i&1 == 1 {
			looks = append(looks, l)
		}
	}
	x.Looks = looks
	return x
}
