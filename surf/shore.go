package surf

import (
	"iter"

	"dipworks/api"
)

// shore is a valid surf, and what is found out about it in the course of a call.
type shore struct {
	api.Surf
	kept map[standing]outcome
}

// sea is how high the water, and the waves, are in an hour of a truth.
type sea struct{ water, waves int }

// hasHour returns whether there is the hour.
func (s shore) hasHour(hour int) bool {
	return within(hour, 0, len(s.Water)-1)
}

// hasRow returns whether there is the row.
func (s shore) hasRow(row int) bool {
	return within(row, 0, s.Rows-1)
}

// hasHut returns whether there is the hut.
func (s shore) hasHut(hut int) bool {
	return within(hut, 0, len(s.Huts)-1)
}

// seas yields what the sea can be like in an hour.
func (s shore) seas(hour int) iter.Seq[sea] {
	return func(yield func(sea) bool) {
		for water := s.Water[hour].Lo; water <= s.Water[hour].Hi; water++ {
			for waves := s.Waves[hour].Lo; waves <= s.Waves[hour].Hi; waves++ {
				if !yield(sea{water: water, waves: waves}) {
					return
				}
			}
		}
	}
}

// depth returns how deep it is at a row.
func (s shore) depth(water, row int) int {
	return max(water-s.Step*row, 0)
}

// depths returns from how deep to how deep it is at a row in an hour.
func (s shore) depths(hour, row int) api.Span {
	return api.Span{Lo: s.depth(s.Water[hour].Lo, row), Hi: s.depth(s.Water[hour].Hi, row)}
}

// lifts returns whether a hut floats in its row; it must not be lost.
func (s shore) lifts(x sea, hut api.SurfHut) bool {
	depth := s.depth(x.water, hut.Row)
	return depth > 0 && depth+x.waves > hut.Floor
}
