package towel

import "dipworks/api"

// words is what is known of a bather but for the counts.
type words api.TowelBather

// own returns how many towels the bather can have kept.
func (w words) own() api.Span {
	return api.Span{Lo: max(0, w.Lent.Lo-w.Back.Hi), Hi: w.Lent.Hi - w.Back.Lo}
}

// canHaveKept goes through all numbers that the bather can have kept.
func (w words) canHaveKept(yield func(many int) bool) {
	own := w.own()
	for many := own.Lo; many <= own.Hi; many++ {
		if !yield(many) {
			return
		}
	}
}
