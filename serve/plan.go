package serve

import (
	"iter"

	"dipworks/api"
	"dipworks/horse"
)

// trial is a plan that is tried, right or not.
type trial struct {
	*beach
	plan []int
}

// trial returns the trial of a plan, which is copied.
func (b *beach) trial(plan []int) trial {
	t := trial{beach: b, plan: make([]int, len(plan))}
	copy(t.plan, plan)
	return t
}

// all goes through the trials of all plans, right or not, in their order.
func (b *beach) all() iter.Seq[trial] {
	return func(yield func(trial) bool) {
		plan := make([]int, len(b.Bathers))
		var from func(bather int) bool
		from = func(bather int) bool {
			if bather == len(plan) {
				return yield(b.trial(plan))
			}
			for place := range b.Tide.Sand {
				plan[bather] = place
				if !from(bather + 1) {
					return false
				}
			}
			return true
		}
		from(0)
	}
}

// trials goes through the trials of the right plans, in their order.
func (b *beach) trials() iter.Seq[trial] {
	return func(yield func(trial) bool) {
	plans:
		for t := range b.all() {
			switch {
			case t.fault().rule != keeps:
				continue plans
			case !yield(t):
				break plans
			}
		}
	}
}

// leg is how a hut is moved: when a guest has left it, and by how many places.
type leg struct {
	guest
	places int
}

// legs returns how huts are moved.
func (t trial) legs() []leg {
	var list []leg
	for bather, place := range t.plan {
		if last, is := t.before(bather); is && t.plan[last.number] != place {
			list = append(list, leg{guest: last, places: apart(t.plan[last.number], place)})
		}
	}
	return list
}

// moves returns the moves of the plan.
func (t trial) moves() []api.HorseMove {
	var list []api.HorseMove
	for _, l := range t.legs() {
		long := api.Span{Lo: t.Soft.Lo * l.places, Hi: t.Soft.Hi * l.places}
		list = append(list, api.HorseMove{At: l.To, Place: l.Hut, Long: long})
	}
	return list
}

// steps returns by how many places all huts are moved together.
func (t trial) steps() int {
	var list []int
	for _, l := range t.legs() {
		list = append(list, l.places)
	}
	return sum(list...)
}

// horses returns how few horses surely are enough.
func (t trial) horses() int {
	many, _, e := horse.Fewest(api.Horses{Pace: t.Pace, Moves: t.moves()}, true)
	require(e == api.OK, e)
	return many
}
