package watch_test

import (
	"math"
	"math/bits"
	"math/rand/v2"
	"slices"

	"dipworks/api"
)

// What the chapter says, written out for one minute, and for one truth, after the other.

// shows is what an owner's watch shows at a minute with a gain.
func shows(o api.WatchOwner, gain, minute int) int {
	n := minute + int(math.Floor(float64(gain*(minute-o.Set))/60))
	for n < 0 {
		n += 720
	}
	for n > 719 {
		n -= 720
	}
	return n
}

// canShow returns whether the watch shows a number of a span at a minute with some gain.
func canShow(o api.WatchOwner, s api.Span, minute int) bool {
	for gain := o.Gain.Lo; gain <= o.Gain.Hi; gain++ {
		if n := shows(o, gain, minute); s.Lo <= n && n <= s.Hi {
			return true
		}
	}
	return false
}

// stops are the minutes at which a watch that was found can have stopped, or the one at which it was found.
func stops(o api.WatchOwner, f api.WatchFind) (minutes []int) {
	for minute := range 1441 {
		late := minute == f.Minute || f.Stopped && minute < f.Minute
		if late && minute >= o.Set && o.Huts>>f.Hut&1 == 1 && canShow(o, f.Shows, minute) {
			minutes = append(minutes, minute)
		}
	}
	return minutes
}

// fitting are the sets of the owners whose each find can be.
func fitting(w api.Watches) (list []int) {
	for _, f := range w.Finds {
		set := 0
		for n, o := range w.Owners {
			if len(stops(o, f)) > 0 {
				set |= 1 << n
			}
		}
		list = append(list, set)
	}
	return list
}

// truth is whose each find is.
type truth []int

// has is the set of the finds that are somebody's.
func (x truth) has(owner int) (set int) {
	for find, n := range x {
		if n == owner {
			set |= 1 << find
		}
	}
	return set
}

// holds returns whether these finds are of owners whose they can be, and no two of the same one.
func (x truth) holds(fits []int, finds int) bool {
	owners := map[int]bool{}
	for find, n := range x {
		if finds>>find&1 == 0 {
			continue
		}
		if fits[find]>>n&1 == 0 || owners[n] {
			return false
		}
		owners[n] = true
	}
	return true
}

// ways are all ways to give each find to one of so many owners.
func ways(owners, finds int) []truth {
	list := []truth{{}}
	for range finds {
		var longer []truth
		for _, x := range list {
			for n := range owners {
				longer = append(longer, append(slices.Clone(x), n))
			}
		}
		list = longer
	}
	return list
}

// truths are those ways that are one.
func truths(w api.Watches, fits []int) (found []truth) {
	for _, x := range ways(len(w.Owners), len(w.Finds)) {
		if x.holds(fits, 1<<len(w.Finds)-1) {
			found = append(found, x)
		}
	}
	return found
}

// clash is the set of the fewest finds with which alone there is no truth, of several the least number; 0 if there is a truth with all.
func clash(w api.Watches, fits []int) (best int) {
	list := ways(len(w.Owners), len(w.Finds))
	for finds := range 1 << len(w.Finds) {
		can := len(w.Owners) == 0 && finds == 0
		for _, x := range list {
			can = can || x.holds(fits, finds)
		}
		if !can && (best == 0 || size(finds) < size(best)) {
			best = finds
		}
	}
	return best
}

func size(set int) int { return bits.OnesCount(uint(set)) }

// Random watches are the same ones each time.
func source(n uint64) *rand.Rand { return rand.New(rand.NewPCG(n, 7)) }

func between(r *rand.Rand, lo, hi int) int { return lo + r.IntN(hi-lo+1) }

// around is a random span so wide at most around a number, within another span.
func around(r *rand.Rand, n, wide int, within api.Span) api.Span {
	lo := max(within.Lo, n-r.IntN(wide+1))
	return span(lo, min(within.Hi, lo+wide, n+r.IntN(wide+1)))
}

// someOwner is a random owner whose watch was set before a minute.
func someOwner(r *rand.Rand, before, gain int) api.WatchOwner {
	o := api.WatchOwner{Set: r.IntN(before + 1), Gain: around(r, between(r, -gain, gain), 2, span(-10, 10)), Huts: 1 + r.IntN(63)}
	if r.IntN(3) == 0 {
		o.Huts = 63
	}
	return o
}

// lost is what is true of a find: whose it is, what the watch gained in an hour, and when it stopped, or else was found.
type lost struct{ owner, gain, minute int }

// someFind is a random watch of an owner that was found, and what is true of it.
func someFind(r *rand.Rand, w api.Watches, owner, wide int) (api.WatchFind, lost) {
	o := w.Owners[owner]
	f := api.WatchFind{Minute: between(r, o.Set, 1440), Stopped: r.IntN(3) == 0}
	for f.Hut = r.IntN(6); o.Huts>>f.Hut&1 == 0; {
		f.Hut = r.IntN(6)
	}
	x := lost{owner, between(r, o.Gain.Lo, o.Gain.Hi), f.Minute}
	if f.Stopped {
		x.minute = between(r, o.Set, f.Minute)
	}
	f.Shows = around(r, shows(o, x.gain, x.minute), wide, span(0, 719))
	return f, x
}

// story is random watches, and what is true of each find. Watches are set, and gain, more or less alike, so that a find is often one of several.
func story(r *rand.Rand) (w api.Watches, all []lost) {
	before, gain := []int{60, 700, 1440}[r.IntN(3)], []int{0, 1, 4, 10}[r.IntN(4)]
	for range r.IntN(6) {
		w.Owners = append(w.Owners, someOwner(r, before, gain))
	}
	for _, owner := range r.Perm(len(w.Owners))[:min(len(w.Owners), r.IntN(5))] {
		f, x := someFind(r, w, owner, []int{0, 5, 30}[r.IntN(3)])
		w.Finds, all = append(w.Finds, f), append(all, x)
	}
	return w, all
}

// anyWatches is random watches, often with no truth.
func anyWatches(r *rand.Rand) api.Watches {
	w, _ := story(r)
	for n := range w.Finds {
		f := &w.Finds[n]
		switch r.IntN(12) {
		case 0:
			f.Hut = r.IntN(6)
		case 1:
			f.Minute = r.IntN(1441)
		case 2:
			f.Shows = around(r, r.IntN(720), 30, span(0, 719))
		case 3:
			f.Stopped = !f.Stopped
		case 4, 5:
			*f = w.Finds[r.IntN(len(w.Finds))]
		}
	}
	if len(w.Owners) > 0 && r.IntN(3) == 0 {
		for len(w.Finds) < 4 {
			f, _ := someFind(r, w, r.IntN(len(w.Owners)), 30)
			w.Finds = append(w.Finds, f)
		}
	}
	return w
}
