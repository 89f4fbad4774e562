package towel_test

import (
	"math/bits"
	"math/rand/v2"
	"slices"

	"dipworks/api"
)

// What the chapter says, written out for one truth after the other.

// truth is how many towels each bather has kept, and 0 for those that there are not.
type truth [api.TowelBathers]int

// keepers is the set of those who have kept at least one.
func (x truth) keepers() (set int) {
	for b, n := range x {
		if n >= 1 {
			set |= 1 << b
		}
	}
	return set
}

func (x truth) all() (n int) {
	for _, m := range x {
		n += m
	}
	return n
}

// numbers are those that a bather can have kept by own words, each once.
func numbers(b api.TowelBather) (list []int) {
	for lent := b.Lent.Lo; lent <= b.Lent.Hi; lent++ {
		for back := b.Back.Lo; back <= b.Back.Hi; back++ {
			if n := lent - back; n >= 0 && !slices.Contains(list, n) {
				list = append(list, n)
			}
		}
	}
	return list
}

// ways are all ways in which bathers can have kept towels by own words, whatever is counted.
func ways(t api.Towels) []truth {
	list := []truth{{}}
	for i, b := range t.Bathers {
		var longer []truth
		own := numbers(b)
		for _, x := range list {
			for _, n := range own {
				x[i] = n
				longer = append(longer, x)
			}
		}
		list = longer
	}
	return list
}

// choice is a set of huts and one of half hours.
type choice struct{ huts, halves int }

func (c choice) size() int { return bits.OnesCount(uint(c.huts)) + bits.OnesCount(uint(c.halves)) }

// within returns whether all of it is in another one.
func (c choice) within(other choice) bool {
	return c.huts&^other.huts == 0 && c.halves&^other.halves == 0
}

// all is all counts.
func all(t api.Towels) choice { return choice{1<<len(t.Huts) - 1, 1<<len(t.Halves) - 1} }

// sums are how many towels are missing of each hut, and of each half hour.
func sums(t api.Towels, x truth) (huts, halves [3]int) {
	for b, y := range t.Bathers {
		huts[y.Hut] += x[b]
		halves[y.Half] += x[b]
	}
	return huts, halves
}

// rightOnes are the counts that are right.
func rightOnes(t api.Towels, x truth) (c choice) {
	huts, halves := sums(t, x)
	for n, count := range t.Huts {
		if holds(count, huts[n]) {
			c.huts |= 1 << n
		}
	}
	for n, count := range t.Halves {
		if holds(count, halves[n]) {
			c.halves |= 1 << n
		}
	}
	return c
}

// truths are those of some ways of which each count is right.
func truths(t api.Towels, list []truth) (found []truth) {
	for _, x := range list {
		if rightOnes(t, x) == all(t) {
			found = append(found, x)
		}
	}
	return found
}

// clash is the fewest counts with which alone there is no truth; of several the least set of huts, then the least one of half hours.
func clash(t api.Towels, list []truth) (best choice, is bool) {
	right := map[choice]bool{}
	for _, x := range list {
		right[rightOnes(t, x)] = true
	}
	for huts := range 1 << len(t.Huts) {
		for halves := range 1 << len(t.Halves) {
			c := choice{huts, halves}
			can := false
			for r := range right {
				can = can || c.within(r)
			}
			if !can && (!is || c.size() < best.size()) {
				best, is = c, true
			}
		}
	}
	return best, is
}

// ends is the span of a number, of all truths, and how many numbers of it are those of a truth.
func ends(list []truth, of func(truth) int) (s api.Span, many int) {
	s = span(of(list[0]), of(list[0]))
	var seen [25]bool
	for _, x := range list {
		n := of(x)
		s = span(min(s.Lo, n), max(s.Hi, n))
		if !seen[n] {
			seen[n] = true
			many++
		}
	}
	return s, many
}

// left is the greatest of these numbers: of each number that a bather has kept in some truth, in how many it is that.
func left(list []truth, bather int) (most int) {
	var many [5]int
	for _, x := range list {
		many[x[bather]]++
	}
	for _, n := range many {
		most = max(most, n)
	}
	return most
}

// holds returns whether a number is in a span, covers whether all of another span is.
func holds(s api.Span, n int) bool { return s.Lo <= n && n <= s.Hi }

func covers(s, other api.Span) bool { return s.Lo <= other.Lo && other.Hi <= s.Hi }

// Random towels are the same ones each time.
func source(n uint64) *rand.Rand { return rand.New(rand.NewPCG(n, 6)) }

func from(r *rand.Rand, lo, hi int) int { return lo + r.IntN(hi-lo+1) }

// part is a random span within another one.
func part(r *rand.Rand, s api.Span) api.Span {
	a, b := from(r, s.Lo, s.Hi), from(r, s.Lo, s.Hi)
	return span(min(a, b), max(a, b))
}

// wordsOf are the random words of a bather of a hut and a half hour.
func wordsOf(r *rand.Rand, hut, half int) api.TowelBather {
	b := api.TowelBather{Hut: hut, Half: half, Lent: part(r, span(0, 4))}
	for {
		if b.Back = part(r, span(0, 4)); b.Back.Lo <= b.Lent.Hi {
			return b
		}
	}
}

// uncounted is random towels of so many huts, half hours and bathers, if there is room for these; the counts say nothing.
func uncounted(r *rand.Rand, huts, halves, bathers int) api.Towels {
	t := towels(free(huts), free(halves))
	for _, n := range r.Perm(huts * halves)[:min(bathers, huts*halves)] {
		t.Bathers = append(t.Bathers, wordsOf(r, n/halves, n%halves))
	}
	return t
}

// some is random towels whose counts say nothing.
func some(r *rand.Rand) api.Towels {
	if r.IntN(2) == 0 {
		return uncounted(r, r.IntN(4), r.IntN(4), r.IntN(7))
	}
	return uncounted(r, from(r, 2, 3), from(r, 2, 3), from(r, 3, 6))
}

// wide is random towels of six bathers each of whom can have kept any number.
func wide(r *rand.Rand) api.Towels {
	t := uncounted(r, 3, 3, 6)
	for i := range t.Bathers {
		t.Bathers[i].Lent, t.Bathers[i].Back = span(4, 4), span(0, 4)
	}
	return t
}

// way is a random way in which bathers can have kept towels by own words.
func way(r *rand.Rand, t api.Towels) (x truth) {
	for i, b := range t.Bathers {
		l := numbers(b)
		x[i] = l[r.IntN(len(l))]
	}
	return x
}

// counted is the towels with counts that are right of a way, and so much wider at most.
func counted(r *rand.Rand, t api.Towels, x truth, wide int) api.Towels {
	huts, halves := sums(t, x)
	wider := func(counts []int) (l []api.Span) {
		for _, n := range counts {
			l = append(l, span(max(0, n-r.IntN(wide+1)), min(24, n+r.IntN(wide+1))))
		}
		return l
	}
	t.Huts, t.Halves = wider(huts[:len(t.Huts)]), wider(halves[:len(t.Halves)])
	return t
}

// miscounted is the towels with one count, or several, moved by a little.
func miscounted(r *rand.Rand, t api.Towels, many int) api.Towels {
	t.Huts, t.Halves = slices.Clone(t.Huts), slices.Clone(t.Halves)
	move := func(s *api.Span) {
		by := from(r, -2, 2)
		*s = span(max(0, s.Lo+by), min(24, max(0, s.Hi+by)))
	}
	for range many {
		switch n := r.IntN(6); {
		case n < len(t.Huts):
			move(&t.Huts[n])
		case n >= 3 && n-3 < len(t.Halves):
			move(&t.Halves[n-3])
		}
	}
	return t
}

// anyTowels is random towels, some with no truth.
func anyTowels(r *rand.Rand) api.Towels {
	t := some(r)
	if r.IntN(4) == 0 {
		t = wide(r)
	}
	t = counted(r, t, way(r, t), r.IntN(4))
	return miscounted(r, t, max(0, r.IntN(7)-2))
}

// better is towels of which words, or counts, are known better.
func better(r *rand.Rand, t api.Towels) api.Towels {
	t.Huts, t.Halves, t.Bathers = slices.Clone(t.Huts), slices.Clone(t.Halves), slices.Clone(t.Bathers)
	for range from(r, 2, 6) {
		i := r.IntN(6)
		switch kind := r.IntN(4); {
		case kind == 0 && i < len(t.Huts):
			t.Huts[i] = part(r, t.Huts[i])
		case kind == 1 && i < len(t.Halves):
			t.Halves[i] = part(r, t.Halves[i])
		case i >= len(t.Bathers):
		case kind == 2:
			t.Bathers[i].Lent = part(r, t.Bathers[i].Lent)
		default:
			t.Bathers[i].Back = part(r, t.Bathers[i].Back)
		}
		if i < len(t.Bathers) && t.Bathers[i].Back.Lo > t.Bathers[i].Lent.Hi {
			t.Bathers[i].Back.Lo = t.Bathers[i].Lent.Hi
		}
	}
	return t
}

// swapped is the towels with huts and half hours in each other's place.
func swapped(t api.Towels) api.Towels {
	t.Huts, t.Halves = slices.Clone(t.Halves), slices.Clone(t.Huts)
	t.Bathers = slices.Clone(t.Bathers)
	for i, b := range t.Bathers {
		t.Bathers[i].Hut, t.Bathers[i].Half = b.Half, b.Hut
	}
	return t
}

// pinned is the towels with own words of one bather by which it is this number.
func pinned(t api.Towels, bather, many int) api.Towels {
	t.Bathers = slices.Clone(t.Bathers)
	t.Bathers[bather].Lent, t.Bathers[bather].Back = span(many, many), span(0, 0)
	return t
}
