package flag_test

import (
	"math/bits"
	"math/rand/v2"
	"slices"

	"dipworks/api"
)

// What the chapter says, written out for one wind, and for one truth, after the other.

// kindOf is the kind of an hour with a wind, and with thunder or without it.
func kindOf(f api.Flag, wind int, thunder bool) int {
	if thunder || wind >= f.High {
		return 2
	}
	if wind < f.Low {
		return 0
	}
	return 1
}

// canBe returns whether an hour can be of a kind.
func canBe(f api.Flag, h api.FlagHour, kind int) bool {
	for wind := h.Wind.Lo; wind <= h.Wind.Hi; wind++ {
		if h.Thunder != 0 && kindOf(f, wind, true) == kind || h.Thunder != 2 && kindOf(f, wind, false) == kind {
			return true
		}
	}
	return false
}

// truth is of which kind each hour is, and whether the flag is up in it.
type truth struct {
	kinds []int
	up    []bool
}

// isTakenDown returns whether the flag is taken down after an hour in which it is up: by looking back from it.
func (x truth) isTakenDown(quiet, after int) bool {
	for n := range quiet {
		hour := after - n
		if hour < 0 || x.kinds[hour] != 0 || !x.up[hour] {
			return false
		}
	}
	return true
}

// flies is the truth with these kinds.
func flies(quiet int, kinds []int) truth {
	x := truth{kinds: kinds}
	for hour, kind := range kinds {
		before := hour > 0 && x.up[hour-1] && !x.isTakenDown(quiet, hour-1)
		x.up = append(x.up, before || kind == 2)
	}
	return x
}

// ways are all truths if nothing was seen.
func ways(f api.Flag) (all []truth) {
	lists := [][]int{nil}
	for _, h := range f.Hours {
		var longer [][]int
		for _, kinds := range lists {
			for kind := range 3 {
				if canBe(f, h, kind) {
					longer = append(longer, append(slices.Clone(kinds), kind))
				}
			}
		}
		lists = longer
	}
	for _, kinds := range lists {
		all = append(all, flies(f.Quiet, kinds))
	}
	return all
}

// falsely is the set of what was seen that is false in a truth.
func (x truth) falsely(seen []api.FlagSeen) (set int) {
	for n, s := range seen {
		if x.up[s.Hour] != s.Up {
			set |= 1 << n
		}
	}
	return set
}

// truths are those ways in which all that was seen is right.
func truths(f api.Flag, all []truth) (list []truth) {
	for _, x := range all {
		if x.falsely(f.Seen) == 0 {
			list = append(list, x)
		}
	}
	return list
}

// wrong is the set of the fewest of what was seen without which there is a truth, of several the least number.
func wrong(f api.Flag, all []truth) (best int) {
	best = -1
	for set := range 1 << len(f.Seen) {
		can := slices.ContainsFunc(all, func(x truth) bool { return x.falsely(f.Seen)&^set == 0 })
		if can && (best < 0 || size(set) < size(best)) {
			best = set
		}
	}
	return best
}

// in is in how many of the truths something is so.
func in(list []truth, so func(x truth) bool) (many int) {
	for _, x := range list {
		if so(x) {
			many++
		}
	}
	return many
}

// long is for how many hours the flag is up.
func (x truth) long() (many int) {
	for _, up := range x.up {
		if up {
			many++
		}
	}
	return many
}

// under is whether the flag was up in some of the hours: in no truth, in some, or in each.
func under(list []truth, from, to int) int {
	switch in(list, func(x truth) bool { return slices.Contains(x.up[from:to], true) }) {
	case len(list):
		return 2
	case 0:
		return 0
	}
	return 1
}

// ask is the hour to ask of, and how many truths are left then at most.
func ask(list []truth, hours int) (best, left int) {
	left = len(list) + 1
	for hour := range hours {
		most := 0
		for kind := range 3 {
			most = max(most, in(list, func(x truth) bool { return x.kinds[hour] == kind }))
		}
		if most < left {
			best, left = hour, most
		}
	}
	return best, left
}

func size(set int) int { return bits.OnesCount(uint(set)) }

// Random flags are the same ones each time.
func source(n uint64) *rand.Rand { return rand.New(rand.NewPCG(n, 10)) }

func from(r *rand.Rand, lo, hi int) int { return lo + r.IntN(hi-lo+1) }

// bounds are a random flag without hours.
func bounds(r *rand.Rand) api.Flag {
	f := api.Flag{Low: from(r, 1, 12), Quiet: from(r, 1, 4)}
	f.High = from(r, f.Low, 12)
	if r.IntN(2) == 0 {
		f.Low, f.High, f.Quiet = from(r, 3, 5), from(r, 5, 9), from(r, 1, 2)
	}
	return f
}

// weather is how strong the wind truly was, and whether it truly thundered.
type weather struct {
	wind    int
	thunder bool
}

// someWeather is random, more often calm than not.
func someWeather(r *rand.Rand, f api.Flag) weather {
	x := weather{wind: r.IntN(f.Low)}
	switch r.IntN(6) {
	case 0:
		x.wind = r.IntN(13)
	case 1:
		x.wind = from(r, f.High-1, 12)
	case 2:
		x.wind = from(r, f.Low, min(f.High, 12))
	}
	x.thunder = r.IntN(12) == 0
	return x
}

// known is an hour of which so much is known.
func known(r *rand.Rand, x weather, wide int) api.FlagHour {
	h := api.FlagHour{Wind: span(max(0, x.wind-r.IntN(wide+1)), min(12, x.wind+r.IntN(wide+1)))}
	if x.thunder {
		h.Thunder = 2
	}
	if r.IntN(6) == 0 {
		h.Thunder = 1
	}
	return h
}

// story is a random flag of so many hours at most, all of which is right, the weather, and the truth.
func story(r *rand.Rand, most int) (api.Flag, []weather, truth) {
	f := bounds(r)
	var all []weather
	var kinds []int
	wide := []int{0, 1, 1, 3, 12}[r.IntN(5)]
	for range max(r.IntN(most+1), r.IntN(most+1)) {
		x := someWeather(r, f)
		f.Hours = append(f.Hours, known(r, x, wide))
		all = append(all, x)
		kinds = append(kinds, kindOf(f, x.wind, x.thunder))
	}
	x := flies(f.Quiet, kinds)
	if len(kinds) > 0 {
		for range min(r.IntN(9), r.IntN(9)) {
			hour := r.IntN(len(kinds))
			f.Seen = append(f.Seen, api.FlagSeen{Hour: hour, Up: x.up[hour]})
		}
	}
	return f, all, x
}

// anyFlag is a random flag of so many hours at most, often with no truth.
func anyFlag(r *rand.Rand, most int) api.Flag {
	f, _, _ := story(r, most)
	often := []int{1, 3, 9}[r.IntN(3)]
	for n := range f.Seen {
		if r.IntN(often+1) == 0 {
			f.Seen[n].Up = !f.Seen[n].Up
		}
	}
	return f
}
