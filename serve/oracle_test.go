package serve_test

import (
	"iter"
	"math/bits"
	"math/rand/v2"
	"slices"

	"dipworks/api"
	"dipworks/tide"
)

// What the chapter says, written out for one minute, one plan and one way to give moves to horses after the other.

// rightPlaces are the places that are right for a bather.
func rightPlaces(t api.Tide, b api.ServeBather) (places []int) {
	for place := range t.Sand {
		right := true
		for minute := b.From; minute < b.To; minute++ {
			d, _ := tide.Depth(t, place, minute)
			right = right && b.Least <= d.Lo && d.Hi <= b.Most
		}
		if right {
			places = append(places, place)
		}
	}
	return places
}

// look is a serve of which the right places of each bather are known.
type look struct {
	api.Serve
	right [][]int
}

func looked(s api.Serve) look {
	x := look{Serve: s}
	for _, b := range s.Bathers {
		x.right = append(x.right, rightPlaces(s.Tide, b))
	}
	return x
}

// only is the same with some of the bathers alone.
func (x look) only(bathers int) look {
	y := look{Serve: x.Serve}
	y.Bathers = nil
	for n, b := range x.Bathers {
		if bathers>>n&1 == 1 {
			y.Bathers, y.right = append(y.Bathers, b), append(y.right, x.right[n])
		}
	}
	return y
}

// before is the number of the bather before one, or -1.
func (x look) before(bather int) int {
	last := -1
	b := x.Bathers[bather]
	for n, other := range x.Bathers {
		sooner := other.From < b.From || other.From == b.From && n < bather
		if other.Hut == b.Hut && sooner && (last < 0 || other.From >= x.Bathers[last].From) {
			last = n
		}
	}
	return last
}

func between(a, b int) int {
	if a > b {
		return a - b
	}
	return b - a
}

// breaks is the first rule that a bather breaks, or 0.
func (x look) breaks(plan []int, bather int) int {
	if !slices.Contains(x.right[bather], plan[bather]) {
		return 1
	}
	if n := x.before(bather); n >= 0 && x.Bathers[n].To+x.Soft.Hi*between(plan[n], plan[bather]) > x.Bathers[bather].From {
		return 2
	}
	return 0
}

func (x look) isRight(plan []int) bool {
	for n := range plan {
		if x.breaks(plan, n) != 0 {
			return false
		}
	}
	return true
}

// plans are all plans, right or not, in their order: the same list each time, which changes.
func (x look) plans() iter.Seq[[]int] {
	return func(yield func([]int) bool) {
		plan := make([]int, len(x.Bathers))
		for yield(plan) {
			n := len(plan) - 1
			for ; n >= 0 && plan[n] == len(x.Tide.Sand)-1; n-- {
				plan[n] = 0
			}
			if n < 0 {
				return
			}
			plan[n]++
		}
	}
}

func (x look) rightPlans() (list [][]int) {
	for plan := range x.plans() {
		if x.isRight(plan) {
			list = append(list, slices.Clone(plan))
		}
	}
	return list
}

// canServe returns whether a plan is right.
func (x look) canServe() bool {
	for plan := range x.plans() {
		if x.isRight(plan) {
			return true
		}
	}
	return false
}

func (x look) moves(plan []int) (list []api.HorseMove) {
	for n, b := range x.Bathers {
		last := x.before(n)
		if last < 0 || plan[last] == plan[n] {
			continue
		}
		many := between(plan[last], plan[n])
		list = append(list, api.HorseMove{At: x.Bathers[last].To, Place: b.Hut, Long: span(x.Soft.Lo*many, x.Soft.Hi*many)})
	}
	return list
}

func (x look) steps(plan []int) (many int) {
	for n := range plan {
		if last := x.before(n); last >= 0 {
			many += between(plan[last], plan[n])
		}
	}
	return many
}

// horses is how few horses can do moves in the slowest truth: of all ways to give them to horses, the one with the fewest.
func horses(pace int, moves []api.HorseMove) int {
	follows := func(a, b api.HorseMove) bool { return b.At >= a.At+a.Long.Hi+pace*between(a.Place, b.Place) }
	best := len(moves)
	var give func(n int, does [][]api.HorseMove)
	give = func(n int, does [][]api.HorseMove) {
		if n == len(moves) {
			best = min(best, len(does))
			return
		}
		give(n+1, append(slices.Clone(does), []api.HorseMove{moves[n]}))
		for i, had := range does {
			if slices.ContainsFunc(had, func(m api.HorseMove) bool { return !follows(m, moves[n]) && !follows(moves[n], m) }) {
				continue
			}
			other := slices.Clone(does)
			other[i] = append(slices.Clone(had), moves[n])
			give(n+1, other)
		}
	}
	give(0, nil)
	return best
}

// least is the first of the plans of which least is told, and how much this is.
func least(plans [][]int, much func([]int) int) (best int, plan []int) {
	for i, p := range plans {
		if n := much(p); i == 0 || n < best {
			best, plan = n, p
		}
	}
	return best, plan
}

// first is the first bather who cannot be served, or -1.
func (x look) first() int {
	for n := range x.Bathers {
		if !x.only(2<<n - 1).canServe() {
			return n
		}
	}
	return -1
}

// drop is the set of the fewest bathers who have to be turned away, of several the least number.
func (x look) drop() int {
	all := 1<<len(x.Bathers) - 1
	best := all
	for set := range all {
		if size(set) < size(best) && x.only(all&^set).canServe() {
			best = set
		}
	}
	return best
}

func size(set int) int { return bits.OnesCount(uint(set)) }

// Random serves are the same ones each time.
func source(n uint64) *rand.Rand { return rand.New(rand.NewPCG(n, 8)) }

func from(r *rand.Rand, lo, hi int) int { return lo + r.IntN(hi-lo+1) }

// around is a random span of heights around a number.
func around(r *rand.Rand, n, wide int) api.Span {
	lo := max(0, n-r.IntN(wide+1))
	return span(lo, max(n, min(60, lo+wide)))
}

// truth is how high marks and sand truly are.
type truth struct{ marks, sand []int }

// someTide is a random tide, and what is true of it.
func someTide(r *rand.Rand) (t api.Tide, x truth) {
	minute, wide := from(r, 0, 20), r.IntN(3)
	for range from(r, 3, 4) {
		x.marks = append(x.marks, from(r, 15, 30))
		t.Marks = append(t.Marks, api.TideMark{Minute: minute, Height: around(r, x.marks[len(x.marks)-1], wide)})
		minute += from(r, 40, 70)
	}
	for range from(r, 1, 4) {
		x.sand = append(x.sand, from(r, 2, 16))
		t.Sand = append(t.Sand, around(r, x.sand[len(x.sand)-1], r.IntN(wide+1)))
	}
	for range r.IntN(4) {
		t.Looks = append(t.Looks, x.someLook(r, t))
	}
	return t, x
}

// someLook is a look that is right.
func (x truth) someLook(r *rand.Rand, t api.Tide) api.TideLook {
	place, minute := r.IntN(len(t.Sand)), from(r, t.Marks[0].Minute, lastMinute(t))
	return api.TideLook{Place: place, Minute: minute, Depth: around(r, x.depth(t, place, minute), r.IntN(3))}
}

func lastMinute(t api.Tide) int { return t.Marks[len(t.Marks)-1].Minute }

// depth is how deep it truly is, by the words of chapter 1.
func (x truth) depth(t api.Tide, place, minute int) int {
	i := 0
	for i+2 < len(t.Marks) && t.Marks[i+1].Minute <= minute {
		i++
	}
	a, b := t.Marks[i].Minute, t.Marks[i+1].Minute
	parts, rest, moved := 6*(minute-a)/(b-a), 6*(minute-a)%(b-a), 0
	for n, more := range []int{1, 2, 3, 3, 2, 1} {
		if n < parts {
			moved += more * (b - a)
		} else if n == parts {
			moved += more * rest
		}
	}
	water := (x.marks[i]*(12*(b-a)-moved) + x.marks[i+1]*moved) / (12 * (b - a))
	return max(0, water-x.sand[place])
}

// someBather is a random bather who comes at a minute, or at once if there is less time; mostly some place is right, or nearly.
func someBather(r *rand.Rand, t api.Tide, x truth, hut, minute int) api.ServeBather {
	last := min(200, lastMinute(t))
	b := api.ServeBather{Hut: hut, From: min(minute, last-1), Most: 60}
	b.To = min(last, b.From+from(r, 1, 12))
	if r.IntN(6) > 0 {
		place := r.IntN(len(t.Sand))
		var depths []int
		for m := b.From; m < b.To; m++ {
			depths = append(depths, x.depth(t, place, m))
		}
		b.Least, b.Most = max(0, slices.Min(depths)-r.IntN(6)), min(60, slices.Max(depths)+r.IntN(6))
	}
	return b
}

// story is a random serve, and what is true of its tide.
func story(r *rand.Rand) (s api.Serve, x truth) {
	s.Tide, x = someTide(r)
	s.Soft.Lo = from(r, 1, 4)
	s.Soft.Hi, s.Pace = from(r, s.Soft.Lo, 4), r.IntN(4)
	free := map[int]int{} // By hut: until when somebody is in it.
	huts, first := from(r, 1, 3), s.Tide.Marks[0].Minute
	for range r.IntN(6) {
		hut := r.IntN(huts)
		minute := max(first, free[hut]+r.IntN(18)-2)
		b := someBather(r, s.Tide, x, hut, minute)
		s.Bathers, free[hut] = append(s.Bathers, b), b.To
	}
	r.Shuffle(len(s.Bathers), func(a, b int) { s.Bathers[a], s.Bathers[b] = s.Bathers[b], s.Bathers[a] })
	return s, x
}

// calmStory is a random serve in calm water, by which huts are moved more.
func calmStory(r *rand.Rand) api.Serve {
	lo, places := from(r, 1, 4), max(from(r, 1, 4), from(r, 1, 4))
	s := calm(span(lo, from(r, lo, 4)), r.IntN(4))
	s.Tide.Sand = s.Tide.Sand[:places]
	free := map[int]int{} // By hut: until when somebody is in it.
	huts, wide, first := from(r, 1, 3), r.IntN(3), r.IntN(3)*s.Soft.Hi
	for n := range max(r.IntN(6), r.IntN(6)) {
		hut, least := (n+r.IntN(2)*r.IntN(3))%huts, 10+r.IntN(places)
		b := bather(hut, free[hut]+first+r.IntN(3*s.Soft.Hi), 0, least, least+r.IntN(wide+1))
		b.To = b.From + from(r, 1, 4)
		s.Bathers, free[hut] = append(s.Bathers, b), b.To-r.IntN(2)*r.IntN(2)
	}
	r.Shuffle(len(s.Bathers), func(a, b int) { s.Bathers[a], s.Bathers[b] = s.Bathers[b], s.Bathers[a] })
	return s
}

// soundServe is a random serve, in calm water or in a tide.
func soundServe(r *rand.Rand) api.Serve {
	if r.IntN(4) > 0 {
		return calmStory(r)
	}
	s, _ := story(r)
	return s
}

// anyServe is a random serve, the tide of which perhaps has no truth.
func anyServe(r *rand.Rand) api.Serve {
	s := soundServe(r)
	if r.IntN(10) == 0 {
		place, minute := r.IntN(len(s.Tide.Sand)), from(r, s.Tide.Marks[0].Minute, lastMinute(s.Tide))
		d, _ := tide.Depth(s.Tide, place, minute)
		n := min(60, d.Hi+r.IntN(3))
		s.Tide.Looks = append(s.Tide.Looks, api.TideLook{Place: place, Minute: minute, Depth: span(n, n)})
	}
	return s
}
