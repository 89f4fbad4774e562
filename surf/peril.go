package surf

import (
	"iter"

	"dipworks/api"
)

// peril is what a hut should be spared.
type peril interface {
	// threatens returns whether it comes to a hut in some truth.
	threatens(s shore, hut api.SurfHut) bool
}

// floating is that a hut floats in some hour.
type floating struct{}

func (floating) threatens(s shore, hut api.SurfHut) bool {
	return s.told(hut).perhaps != 0
}

// losing is that a hut is lost.
type losing struct{}

func (losing) threatens(s shore, hut api.SurfHut) bool {
	return s.lost(hut) != api.SurfNever
}

// wanted is which of several values is enough.
type wanted[T any] struct {
	enough func(T) bool
}

// first returns the first of the values that is enough; one must be.
func first[T any](w wanted[T], values iter.Seq[T]) T {
	var found T
	for v := range values {
		if w.enough(v) {
			found = v
			break
		}
	}
	return found
}

// spared returns the first of some huts to which a peril does not come.
func (s shore) spared(p peril, huts iter.Seq[api.SurfHut]) api.SurfHut {
	safe := func(hut api.SurfHut) bool { return !p.threatens(s, hut) }
	return first(wanted[api.SurfHut]{enough: safe}, huts)
}

// brakes yields a hut with each brake that there can be, the least one first.
func brakes(hut api.SurfHut) iter.Seq[api.SurfHut] {
	return func(yield func(api.SurfHut) bool) {
		for hut.Brake = 0; hut.Brake <= api.SurfWaves; hut.Brake++ {
			if !yield(hut) {
				return
			}
		}
	}
}

// floors yields a hut with each floor that there can be, the least one first.
func floors(hut api.SurfHut) iter.Seq[api.SurfHut] {
	return func(yield func(api.SurfHut) bool) {
		for hut.Floor = 0; hut.Floor <= api.SurfFloor; hut.Floor++ {
			if !yield(hut) {
				return
			}
		}
	}
}
