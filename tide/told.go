package tide

import (
	"math/bits"
	"slices"

	"dipworks/api"
)

// sets is which places surely, and which perhaps, are such.
type sets struct{ surely, perhaps int }

// guess is at which place one should look, and how many truths that leaves at most.
type guess struct{ place, left int }

// height returns how high the water stands.
func (b *beach) height(minute int) api.Span {
	w := widening[heights]{of: func(h heights) int { return b.gauge.level(h, minute) }}
	return w.over(b.eachMarks())
}

// depth returns how deep it is.
func (b *beach) depth(place, minute int) api.Span {
	w := widening[spot]{of: spot.deep}
	return w.over(b.eachSpot(place, minute))
}

// sand returns how high the sand lies.
func (b *beach) sand(place int) api.Span {
	w := widening[spot]{of: func(s spot) int { return s.sand }}
	// The sand lies as high at any other minute.
	return w.over(b.eachSpot(place, b.last()))
}

// last returns the last minute of the tide.
func (b *beach) last() int {
	return b.Marks[len(b.Marks)-1].Minute
}

// served returns when it surely is from least to most deep.
func (b *beach) served(place, least, most int) []api.Span {
	var list []api.Span
	for minute := b.Marks[0].Minute; minute <= b.last(); minute++ {
		d := b.depth(place, minute)
		if d.Lo < least || d.Hi > most {
			continue
		}
		n := len(list)
		if n > 0 && list[n-1].Hi == minute-1 {
			list[n-1].Hi = minute
		} else {
			list = append(list, api.Span{Lo: minute, Hi: minute})
		}
	}
	return list
}

// first returns the first minute at which it is deep enough, and refuses the call if there is none.
func (b *beach) first(place, least, from int, sure bool) int {
	for minute := from; minute <= b.last(); minute++ {
		d := b.depth(place, minute)
		if d.Lo >= least || !sure && d.Hi >= least {
			return minute
		}
	}
	panic(api.ErrNone)
}

// places returns at which places it is from least to most deep.
func (b *beach) places(minute, least, most int) sets {
	var x sets
	for place := range b.Sand {
		every, some := true, false
		for s := range b.eachSpot(place, minute) {
			fits := within(s.deep(), least, most)
			every, some = every && fits, some || fits
		}
		if every {
			x.surely |= 1 << place
		}
		if some {
			x.perhaps |= 1 << place
		}
	}
	return x
}

// count returns how many truths there are, looked for or not.
func (b *beach) count() int {
	n := 0
	for t := range b.eachTruths() {
		n += t.many(len(b.Sand))
	}
	return n
}

// next returns where to look.
func (b *beach) next(minute int) guess {
	best := guess{place: 0, left: b.left(0, minute)}
	for place := 1; place < len(b.Sand); place++ {
		if n := b.left(place, minute); n < best.left {
			best = guess{place: place, left: n}
		}
	}
	return best
}

// left returns how many truths a look at a place leaves at most.
func (b *beach) left(place, minute int) int {
	var tally [api.TideHeight + 1]int
	for _, t := range b.all {
		others := t.choices(len(b.Sand))
		others[place] = 1
		water := b.gauge.level(t.marks, minute)
		for _, n := range t.sand[place] {
			s := spot{water: water, sand: n}
			tally[s.deep()] += product(others...)
		}
	}
	return slices.Max(tally[:])
}

// clash returns the fewest looks that cannot all be right, and refuses the call if all can.
func (b *beach) clash() int {
	require(!b.possible(), api.ErrNone)
	// Without looks there always is a truth, so at least one look clashes.
	all := 1<<len(b.Looks) - 1
	best := all
	for set := 1; set < all; set++ {
		fewer := bits.OnesCount(uint(set)) < bits.OnesCount(uint(best))
		if fewer && !b.only(set).possible() {
			best = set
		}
	}
	return best
}

// only returns the beach with no other looks than those of a set.
func (b *beach) only(set int) *beach {
	t := b.Tide
	t.Looks = make([]api.TideLook, len(b.Looks))
	copy(t.Looks, b.Looks)
	for i := len(b.Looks) - 1; i >= 0; i-- {
		if set>>i&1 == 0 {
			t.Looks = slices.Delete(t.Looks, i, i+1)
		}
	}
	return newBeach(t)
}
