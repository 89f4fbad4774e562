package dip

import (
	"iter"

	"dipworks/api"
)

// hands is how many hands a bather needs, or a dipper has left.
type hands int

func (h hands) plus(more hands) hands {
	return h + more
}

func (h hands) minus(fewer hands) hands {
	return h - fewer
}

// within returns whether no more hands are needed than are left.
func (h hands) within(left hands) bool {
	return h <= left
}

// sum returns how many hands those are together.
func sum(list ...hands) hands {
	total := hands(0)
	for _, h := range list {
		total = total.plus(h)
	}
	return total
}

// left is how many hands each dipper has left in each hour. Who is not there has none.
type left [api.DipHours][api.DipDippers]hands

func (l left) at(place api.DipPlace) hands {
	return l[place.Hour][place.Dipper]
}

// changed returns the same with other hands at a place.
func (l left) changed(place api.DipPlace, change func(had, by hands) hands, by hands) left {
	l[place.Hour][place.Dipper] = change(l.at(place), by)
	return l
}

// in returns how many hands all dippers have left in an hour together.
func (l left) in(hour int) hands {
	return sum(l[hour][:]...)
}

// places goes through the places where enough hands are left, in order.
func (l left) places(enough func(left hands) bool) iter.Seq[api.DipPlace] {
	return func(yield func(api.DipPlace) bool) {
		for hour, dippers := range l {
			for dipper, h := range dippers {
				if enough(h) && !yield(api.DipPlace{Hour: hour, Dipper: dipper}) {
					return
				}
			}
		}
	}
}
