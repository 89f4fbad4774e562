package boat_test

import (
	"math/bits"
	"math/rand/v2"
	"slices"

	"dipworks/api"
)

// What the chapter says, written out for one step, and for one truth, after the other.

// steps are the places to which one step goes.
func steps(b api.Boats, place int) (to []int) {
	column, row := place%b.Wide, place/b.Wide
	for _, next := range [][2]int{{column + 1, row}, {column - 1, row}, {column, row + 1}, {column, row - 1}} {
		if 0 <= next[0] && next[0] < b.Wide && 0 <= next[1] && next[1] < b.Deep {
			to = append(to, next[1]*b.Wide+next[0])
		}
	}
	return to
}

// goes are the places to which a boat goes from a place in a minute.
func goes(b api.Boats, place, speed int) []int {
	to := []int{place}
	for range speed {
		for _, p := range slices.Clone(to) {
			to = append(to, steps(b, p)...)
		}
		slices.Sort(to)
		to = slices.Compact(to)
	}
	return to
}

// allGo are the places to which a boat goes from each place.
func allGo(b api.Boats, speed int) (all [][]int) {
	for place := range b.Wide * b.Deep {
		all = append(all, goes(b, place, speed))
	}
	return all
}

func isIn(n int, s api.Span) bool { return s.Lo <= n && n <= s.Hi }

// isRight is whether all sightings of a minute are right if the boat is at a place.
func isRight(b api.Boats, seen []api.BoatSeen, minute, place int) bool {
	for _, s := range seen {
		if s.Minute == minute && !(isIn(place%b.Wide, s.Columns) && isIn(place/b.Wide, s.Rows)) {
			return false
		}
	}
	return true
}

// truths are the places of a boat in all minutes, in each truth.
func truths(b api.Boats, one int) [][]int {
	lists, to := [][]int{nil}, allGo(b, b.Speed)
	for minute := range b.Last + 1 {
		var longer [][]int
		for _, x := range lists {
			for place := range b.Wide * b.Deep {
				if isRight(b, b.Seen[one], minute, place) && (minute == 0 || slices.Contains(to[x[minute-1]], place)) {
					longer = append(longer, append(slices.Clone(x), place))
				}
			}
		}
		lists = longer
	}
	return lists
}

// nearest is the least row of a truth.
func nearest(b api.Boats, x []int) int {
	row := b.Deep
	for _, place := range x {
		row = min(row, place/b.Wide)
	}
	return row
}

// known is what there is of all truths of a boat: the set of places of each minute, and the set of nearest rows. Without a truth it is empty.
type known struct {
	can     []int
	nearest int
}

// byTruths is what there is by all truths, one after the other.
func byTruths(b api.Boats, one int) (k known) {
	for _, x := range truths(b, one) {
		if k.can == nil {
			k.can = make([]int, b.Last+1)
		}
		for minute, place := range x {
			k.can[minute] |= 1 << place
		}
		k.nearest |= 1 << nearest(b, x)
	}
	return k
}

// state is where a boat is, and its nearest row until then.
type state struct{ place, nearest int }

// byStates is the same for boats that have too many truths: by which states follow one another.
func byStates(b api.Boats, one int) (k known) {
	to := allGo(b, b.Speed)
	states := make([]map[state]bool, b.Last+1)
	for minute := range states {
		states[minute] = map[state]bool{}
		for place := range b.Wide * b.Deep {
			if !isRight(b, b.Seen[one], minute, place) {
				continue
			}
			if minute == 0 {
				states[0][state{place, place / b.Wide}] = true
				continue
			}
			for _, before := range to[place] { // Who goes there can come from there.
				for row := range b.Deep {
					if states[minute-1][state{before, row}] {
						states[minute][state{place, min(row, place/b.Wide)}] = true
					}
				}
			}
		}
	}
	if len(states[b.Last]) == 0 {
		return k
	}
	k.can = make([]int, b.Last+1)
	for x := range states[b.Last] {
		k.nearest |= 1 << x.nearest
		k.can[b.Last] |= 1 << x.place
	}
	for minute := b.Last - 1; minute >= 0; minute-- {
		for x := range states[minute] {
			if slices.ContainsFunc(to[x.place], func(next int) bool { return has(k.can[minute+1], next) }) {
				k.can[minute] |= 1 << x.place
			}
		}
	}
	return k
}

// isPossible is whether there is a truth for a boat that was seen so, and goes so fast.
func isPossible(b api.Boats, seen []api.BoatSeen, speed int) bool {
	to, here := allGo(b, speed), map[int]bool{}
	for minute := range b.Last + 1 {
		next := map[int]bool{}
		for place := range b.Wide * b.Deep {
			can := minute == 0 || slices.ContainsFunc(to[place], func(before int) bool { return here[before] })
			if can && isRight(b, seen, minute, place) {
				next[place] = true
			}
		}
		here = next
	}
	return len(here) > 0
}

// wrong is the set of the fewest sightings without which there is a truth, of several the least number.
func wrong(b api.Boats, one int) (best int) {
	best = -1
	for set := range 1 << len(b.Seen[one]) {
		if best >= 0 && size(set) >= size(best) {
			continue
		}
		var left []api.BoatSeen
		for n, s := range b.Seen[one] {
			if !has(set, n) {
				left = append(left, s)
			}
		}
		if isPossible(b, left, b.Speed) {
			best = set
		}
	}
	return best
}

func has(set, n int) bool { return set>>n&1 == 1 }

func size(set int) int { return bits.OnesCount(uint(set)) }

// ends is the span from the least to the greatest element.
func ends(set int) api.Span { return span(bits.TrailingZeros(uint(set)), bits.Len(uint(set))-1) }

// rows is the span of the rows of places.
func rows(b api.Boats, places int) api.Span {
	s := ends(places)
	return span(s.Lo/b.Wide, s.Hi/b.Wide)
}

// Random boats are the same ones each time.
func source(n uint64) *rand.Rand { return rand.New(rand.NewPCG(n, 12)) }

func from(r *rand.Rand, lo, hi int) int { return lo + r.IntN(hi-lo+1) }

// sail is where a boat truly is in each minute. Some stay where they are now and then.
func sail(r *rand.Rand, b api.Boats) (x []int) {
	x = append(x, r.IntN(b.Wide*b.Deep))
	often := from(r, 1, 4)
	for range b.Last {
		place := x[len(x)-1]
		if to := goes(b, place, b.Speed); r.IntN(often) == 0 {
			place = to[r.IntN(len(to))]
		}
		x = append(x, place)
	}
	return x
}

// near is a span around a number, so wide at most, from 0 to the greatest one.
func near(r *rand.Rand, n, wide, most int) api.Span {
	return span(max(0, n-r.IntN(wide+1)), min(most, n+r.IntN(wide+1)))
}

// sightings are random ones of a boat that truly was there.
func sightings(r *rand.Rand, b api.Boats, x []int) (seen []api.BoatSeen) {
	var minutes []int
	for range max(r.IntN(6), r.IntN(6)) {
		minutes = append(minutes, r.IntN(b.Last+1))
	}
	slices.Sort(minutes)
	wide := []int{0, 0, 1, 2, 8}[r.IntN(5)]
	for _, minute := range minutes {
		place := x[minute]
		seen = append(seen, around(minute, near(r, place%b.Wide, wide, b.Wide-1), near(r, place/b.Wide, wide, b.Deep-1)))
	}
	return seen
}

// limits are how large random boats are at most.
type limits struct{ wide, deep, places, last int }

func small() limits { return limits{wide: 5, deep: 4, places: 6, last: 4} }
func large() limits { return limits{wide: 8, deep: 6, places: 48, last: 12} }

// story is random boats of which all that was seen is right, and where each one truly was.
func story(r *rand.Rand, most limits) (b api.Boats, truly [][]int) {
	b = api.Boats{Wide: from(r, 1, most.wide), Speed: r.IntN(4), Last: from(r, 0, most.last)}
	b.Deep = from(r, 1, min(most.deep, most.places/b.Wide))
	for range from(r, 1, 4) {
		x := sail(r, b)
		truly = append(truly, x)
		b.Seen = append(b.Seen, sightings(r, b, x))
	}
	return b, truly
}

// some is a random span from 0 to the greatest number.
func some(r *rand.Rand, most int) api.Span {
	lo := r.IntN(most + 1)
	return span(lo, min(most, lo+min(r.IntN(3), r.IntN(3))))
}

// anyBoats is random boats; some of them have no truth.
func anyBoats(r *rand.Rand, most limits) api.Boats {
	b, _ := story(r, most)
	often := []int{1, 2, 5, 20}[r.IntN(4)]
	for _, seen := range b.Seen {
		for n := range seen {
			if r.IntN(often) == 0 {
				seen[n].Columns, seen[n].Rows = some(r, b.Wide-1), some(r, b.Deep-1)
			}
		}
	}
	return b
}
