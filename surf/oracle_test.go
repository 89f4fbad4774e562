package surf_test

import (
	"math/bits"
	"math/rand/v2"
	"slices"

	"dipworks/api"
)

// What the chapter says, written out for one truth after the other.

// truth is how high the water, and the waves, are in each hour.
type truth struct{ water, waves []int }

// truths are all truths of a surf.
func truths(s api.Surf) []truth {
	all := []truth{{}}
	for hour := range s.Water {
		var longer []truth
		for _, x := range all {
			for a := s.Water[hour].Lo; a <= s.Water[hour].Hi; a++ {
				for b := s.Waves[hour].Lo; b <= s.Waves[hour].Hi; b++ {
					longer = append(longer, truth{append(slices.Clone(x.water), a), append(slices.Clone(x.waves), b)})
				}
			}
		}
		all = longer
	}
	return all
}

func depth(s api.Surf, x truth, hour, row int) int {
	return max(0, x.water[hour]-s.Step*row)
}

// life is what becomes of a hut in a truth: its row after each hour, -1 if it is lost, and whether it floats in each hour.
type life struct {
	rows   []int
	floats []bool
}

func lifeOf(s api.Surf, hut api.SurfHut, x truth) (l life) {
	row, lost := hut.Row, false
	for hour := range x.water {
		floats := false
		if !lost {
			deep := depth(s, x, hour, row)
			floats = deep > 0 && deep+x.waves[hour] > hut.Floor
		}
		if floats && x.waves[hour] > hut.Brake {
			if row == 0 {
				lost = true
			} else {
				row--
			}
		}
		l.floats = append(l.floats, floats)
		if lost {
			l.rows = append(l.rows, -1)
		} else {
			l.rows = append(l.rows, row)
		}
	}
	return l
}

// lost returns whether the hut is lost after all hours.
func (l life) lost() bool {
	return len(l.rows) > 0 && l.rows[len(l.rows)-1] < 0
}

// lives are what becomes of a hut in each of some truths.
func lives(s api.Surf, hut api.SurfHut, all []truth) (list []life) {
	for _, x := range all {
		list = append(list, lifeOf(s, hut, x))
	}
	return list
}

// places returns the set of rows after an hour, and whether the hut is lost in some.
func places(list []life, hour int) (rows int, lost bool) {
	for _, l := range list {
		if l.rows[hour] < 0 {
			lost = true
		} else {
			rows |= 1 << l.rows[hour]
		}
	}
	return rows, lost
}

// floating returns the hours of each life, and those of some.
func floating(list []life, hours int) (surely, perhaps int) {
	surely = 1<<hours - 1
	for _, l := range list {
		for hour, is := range l.floats {
			if is {
				perhaps |= 1 << hour
			} else {
				surely &^= 1 << hour
			}
		}
	}
	return surely, perhaps
}

// lost returns in how many lives the hut is lost: 0 in none, 1 in some, 2 in all.
func lost(list []life) int {
	n := 0
	for _, l := range list {
		if l.lost() {
			n++
		}
	}
	return how(n, len(list))
}

// how is whether something is so in each of so many truths, in some or in none.
func how(so, all int) int {
	switch so {
	case 0:
		return 0
	case all:
		return 2
	}
	return 1
}

func brake(s api.Surf, hut api.SurfHut, all []truth) int {
	for hut.Brake = 0; ; hut.Brake++ {
		if lost(lives(s, hut, all)) == 0 {
			return hut.Brake
		}
	}
}

func floor(s api.Surf, hut api.SurfHut, all []truth) int {
	for hut.Floor = 0; ; hut.Floor++ {
		if _, perhaps := floating(lives(s, hut, all), len(s.Water)); perhaps == 0 {
			return hut.Floor
		}
	}
}

// save looks at all lists of hours, the first one first. Of each hut is given the first hour in which it can float, or -1.
func save(first []int, hours, many int) (best []int, left int) {
	list := make([]int, len(first))
	for i := range list {
		list[i] = -1
	}
	for {
		if set, can := leaves(list, first, many); can && (best == nil || better(set, left)) {
			best, left = slices.Clone(list), set
		}
		i := len(list) - 1
		for i >= 0 && list[i] == hours-1 {
			list[i] = -1
			i--
		}
		if i < 0 {
			return best, left
		}
		list[i]++
	}
}

// leaves returns which huts that can float a list leaves, and whether it is such a list.
func leaves(list, first []int, many int) (set int, can bool) {
	for i, hour := range list {
		switch {
		case hour < 0 && first[i] >= 0:
			set |= 1 << i
		case hour >= 0 && hour >= first[i]:
			return 0, false
		}
		n := 0
		for _, other := range list {
			if other == hour {
				n++
			}
		}
		if hour >= 0 && n > many {
			return 0, false
		}
	}
	return set, true
}

// better returns whether fewer huts are left, or as many with a lesser number.
func better(set, other int) bool {
	n, m := bits.OnesCount(uint(set)), bits.OnesCount(uint(other))
	return n < m || n == m && set < other
}

// Random surfs are the same ones each time.
func source(n uint64) *rand.Rand { return rand.New(rand.NewPCG(n, 4)) }

func from(r *rand.Rand, lo, hi int) int { return lo + r.IntN(hi-lo+1) }

// around is a random span, so wide at most, of numbers from lo to hi.
func around(r *rand.Rand, lo, hi, wide int) api.Span {
	a := from(r, lo, hi)
	return span(a, min(hi, a+r.IntN(wide+1)))
}

// some is a random surf of so many hours and huts, of at most so many truths, in which many huts float now and then.
func some(r *rand.Rand, hours, huts, most int) api.Surf {
	s := api.Surf{Rows: from(r, 1, api.SurfRows), Step: r.IntN(api.SurfStep + 1)}
	high := from(r, 3, 20)
	many := 1
	for range hours {
		water := around(r, max(0, high-6), min(api.SurfWater, high+4), api.SurfWide)
		waves := around(r, 0, 6, api.SurfWide)
		if n := many * (water.Hi - water.Lo + 1); n > most {
			water.Hi = water.Lo
		} else {
			many = n
		}
		if n := many * (waves.Hi - waves.Lo + 1); n > most {
			waves.Hi = waves.Lo
		} else {
			many = n
		}
		s.Water, s.Waves = append(s.Water, water), append(s.Waves, waves)
	}
	for range huts {
		row := r.IntN(s.Rows)
		s.Huts = append(s.Huts, hut(from(r, max(0, high-s.Step*row-4), max(0, high-s.Step*row)+8), r.IntN(7), row))
	}
	return s
}

// sample is a random truth of a surf.
func sample(r *rand.Rand, s api.Surf) (x truth) {
	for hour := range s.Water {
		x.water = append(x.water, from(r, s.Water[hour].Lo, s.Water[hour].Hi))
		x.waves = append(x.waves, from(r, s.Waves[hour].Lo, s.Waves[hour].Hi))
	}
	return x
}

// known is a surf of which all is known: it is as in a truth.
func known(s api.Surf, x truth) api.Surf {
	s.Water, s.Waves = spans(x.water...), spans(x.waves...)
	return s
}
