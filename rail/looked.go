package rail

import (
	"cmp"
	"slices"

	"dipworks/api"
)

// stretch is the hours from one on to before another one.
type stretch struct{ from, to int }

// looked is a rail that is looked at in the weather of one truth, and how far a towel has dried by each stretch in which it can hang.
type looked struct {
	api.Rail
	weather
	dried map[stretch]int
}

// lookIn returns a rail that is looked at in a weather.
func lookIn(r api.Rail, w weather) looked {
	by := amountsIn(w, r.Hours)
	dried := map[stretch]int{}
	for from := range until(r.Hours).up() {
		for hour := range (until(r.Hours) &^ until(from)).up() {
			dried[stretch{from, hour + 1}] = dried[stretch{from, hour}] + by[hour]
		}
	}
	return looked{r, w, dried}
}

// isDry returns whether what hangs from one hour on, and is so wet, is dry at another one. A stretch that is not kept has no hours, and dries nothing.
func (x looked) isDry(wet, from, at int) bool {
	return x.dried[stretch{from, at}] >= wet
}

// dryAt returns the first hour (or the end) at which a line is dry, or one beyond the end if there is none.
func (x looked) dryAt(l api.RailLine) int {
	hour, is := first(until(x.Hours+1), search[hours, int]{hours.up, func(hour int) bool {
		return x.isDry(x.of(l.Wet), l.At, hour)
	}})
	if !is {
		return x.Hours + 1
	}
	return hour
}

// latest returns the latest hour from which on a towel that is so wet would hang so that it is dry at an hour.
func (x looked) latest(wet, at int) int {
	hour, is := first(until(at), search[hours, int]{hours.down, func(from int) bool {
		return x.isDry(wet, from, at)
	}})
	require(is, api.ErrNone)
	return hour
}

// latestFirst returns the lines by when they are dry, the one that is last first.
func (x looked) latestFirst() []api.RailLine {
	lines := make([]api.RailLine, len(x.Lines))
	copy(lines, x.Lines)
	slices.SortFunc(lines, func(a, b api.RailLine) int { return cmp.Compare(x.dryAt(b), x.dryAt(a)) })
	return lines
}

// wet returns how many towels are on lines that are not dry at an hour.
func (x looked) wet(hour int) int {
	var wet []int
	for _, l := range x.latestFirst() {
		if x.dryAt(l) <= hour {
			break // So are all lines behind it.
		}
		wet = append(wet, l.Many)
	}
	return sum(wet...)
}

// sum returns how many towels there are together.
func sum(towels ...int) int {
	all := 0
	for _, many := range towels {
		all += many
	}
	return all
}
