package tide

import (
	"iter"

	"dipworks/api"
)

// beach is a tide, made ready for its truths to be looked through.
type beach struct {
	api.Tide
	gauge gauge
	looks []look
	all   []truths
}

// truths is all truths with the same heights of marks. Places then have nothing to do with one another, as each look is at one place: sand is how high it can lie at each place.
type truths struct {
	marks heights
	sand  [api.TidePlaces][]int
}

// spot is what a truth says of one place at one minute: how high the water stands, and the sand lies.
type spot struct{ water, sand int }

// deep returns how deep it is at a spot.
func (s spot) deep() int {
	return max(0, s.water-s.sand)
}

// newBeach returns the beach of a valid tide; its truths are not yet looked for.
func newBeach(t api.Tide) *beach {
	b := &beach{Tide: t, gauge: newGauge(t.Marks)}
	for _, l := range t.Looks {
		b.looks = append(b.looks, newLook(l, b.gauge))
	}
	return b
}

// settle looks for the truths, and refuses the call if there is none.
func (b *beach) settle() {
	for t := range b.eachTruths() {
		b.all = append(b.all, t)
	}
	require(len(b.all) > 0, api.ErrClash)
}

// possible returns whether there is a truth.
func (b *beach) possible() bool {
	for range b.eachTruths() {
		return true
	}
	return false
}

// eachHeights yields all heights that the marks can have, whether looks are right or not.
func (b *beach) eachHeights() iter.Seq[heights] {
	return func(yield func(heights) bool) {
		var h heights
		var from func(mark int) bool
		from = func(mark int) bool {
			if mark == len(b.Marks) {
				return yield(h)
			}
			s := b.Marks[mark].Height
			for n := s.Lo; n <= s.Hi; n++ {
				h[mark] = n
				if !from(mark + 1) {
					return false
				}
			}
			return true
		}
		from(0)
	}
}

// eachTruths yields the truths, those with the same heights together.
func (b *beach) eachTruths() iter.Seq[truths] {
	return func(yield func(truths) bool) {
	marks:
		for h := range b.eachHeights() {
			t := truths{marks: h}
			for place := range b.Sand {
				t.sand[place] = b.sands(place, h.at)
				if len(t.sand[place]) == 0 {
					continue marks
				}
			}
			if !yield(t) {
				break marks
			}
		}
	}
}

// sands returns how high the sand can lie at a place if all looks there are right.
func (b *beach) sands(place int, water func(way) int) []int {
	var list []int
	for n := b.Sand[place].Lo; n <= b.Sand[place].Hi; n++ {
		if b.right(place, water, n) {
			list = append(list, n)
		}
	}
	return list
}

// right returns whether all looks at a place are right.
func (b *beach) right(place int, water func(way) int, sand int) bool {
	for _, l := range b.looks {
		if l.of(place) && !l.right(water, sand) {
			return false
		}
	}
	return true
}

// eachSpot yields what the truths say of a place at a minute.
func (b *beach) eachSpot(place, minute int) iter.Seq[spot] {
	return func(yield func(spot) bool) {
		for _, t := range b.all {
			water := b.gauge.level(t.marks, minute)
			for _, n := range t.sand[place] {
				if !yield(spot{water: water, sand: n}) {
					return
				}
			}
		}
	}
}

// eachMarks yields the heights that the marks have in truths.
func (b *beach) eachMarks() iter.Seq[heights] {
	return func(yield func(heights) bool) {
		for _, t := range b.all {
			if !yield(t.marks) {
				return
			}
		}
	}
}

// many returns how many truths these are, of a beach with so many places.
func (t truths) many(places int) int {
	return product(t.choices(places)...)
}

// choices returns how many heights of the sand there can be at each place.
func (t truths) choices(places int) []int {
	var list []int
	for _, sand := range t.sand[:places] {
		list = append(list, len(sand))
	}
	return list
}

// product returns the product of numbers.
func product(numbers ...int) int {
	n := 1
	for _, x := range numbers {
		n *= x
	}
	return n
}
