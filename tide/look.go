package tide

import "dipworks/api"

// look is a look at the steps: at which place it was, and whether it is right if the water stands and the sand lies so high.
type look interface {
	of(place int) bool
	right(water func(way) int, sand int) bool
}

// wet is a look that found water.
type wet struct {
	api.TideLook
	when way
}

func (w wet) of(place int) bool {
	return w.Place == place
}

func (w wet) right(water func(way) int, sand int) bool {
	return within(water(w.when)-sand, w.Depth.Lo, w.Depth.Hi)
}

// dry is a look that perhaps found none: it is right, too, if the water does not stand higher than the sand lies, however much lower.
type dry struct{ wet }

func (d dry) right(water func(way) int, sand int) bool {
	return water(d.when) <= sand || d.wet.right(water, sand)
}

// newLook returns a look of which the gauge knows how far the water had moved.
func newLook(l api.TideLook, g gauge) look {
	w := wet{TideLook: l, when: g.moved(g.before(l.Minute), l.Minute)}
	if l.Depth.Lo == 0 {
		return dry{w}
	}
	return w
}
