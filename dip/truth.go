package dip

import (
	"iter"

	"dipworks/api"
)

// truth is how many hands dippers have and bathers need. Of all truths only two matter: what is right in the worst one is right in each, and what is not in the best one is in none.
type truth interface {
	// has returns how many hands a dipper has, needs how many a bather needs.
	has(dipper int) hands
	needs(bather int) hands
	// bathers returns how many there are.
	bathers() int
	// places goes through the places where the dipper is there.
	places() iter.Seq[api.DipPlace]
	// meet returns whether a bather can go in in the hour of a place, and the dipper is there.
	meet(bather int, place api.DipPlace) bool
}

// best is the truth in which each dipper has the most hands, and each bather needs the fewest.
type best struct{ dips }

func (b best) has(dipper int) hands {
	return hands(b.Dippers[dipper].Hands.Hi)
}

func (b best) needs(bather int) hands {
	return hands(b.Bathers[bather].Needs.Lo)
}

func (b best) bathers() int {
	return len(b.Bathers)
}

func (b best) places() iter.Seq[api.DipPlace] {
	return func(yield func(api.DipPlace) bool) {
		for hour := range b.Hours {
			for dipper := range b.Dippers {
				if b.there(dipper, hour) && !yield(api.DipPlace{Hour: hour, Dipper: dipper}) {
					return
				}
			}
		}
	}
}

func (b best) meet(bather int, place api.DipPlace) bool {
	return set(b.Bathers[bather].Hours).has(place.Hour) && b.there(place.Dipper, place.Hour)
}

func (b best) there(dipper, hour int) bool {
	return set(b.Dippers[dipper].Hours).has(hour)
}

// worst is the truth in which each dipper has the fewest hands, and each bather needs the most. Who can go in when is the same in all truths.
type worst struct{ best }

func (w worst) has(dipper int) hands {
	return hands(w.Dippers[dipper].Hands.Lo)
}

func (w worst) needs(bather int) hands {
	return hands(w.Bathers[bather].Needs.Hi)
}
