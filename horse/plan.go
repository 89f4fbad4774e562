package horse

import (
	"cmp"
	"slices"

	"dipworks/api"
)

// pair is two moves.
type pair struct{ first, second int }

// wrong returns the first two moves of one horse of which none can follow the other one, and refuses the call if the plan is right.
func (y yard) wrong(plan []int, o order) pair {
	for first := range plan {
		for second := first + 1; second < len(plan); second++ {
			if plan[first] == plan[second] && !o.linked(first, second) {
				return pair{first: first, second: second}
			}
		}
	}
	panic(api.ErrNone)
}

// finished is a job that a horse has done, and in which minute it was done.
type finished struct {
	job
	minute int
}

// lateness returns from how many to how many minutes late each move begins.
func (y yard) lateness(plan []int) []api.Span {
	least, most := y.late(plan, fastest{}), y.late(plan, slowest{})
	var list []api.Span
	for i := range plan {
		list = append(list, api.Span{Lo: least[i], Hi: most[i]})
	}
	return list
}

// late returns how many minutes late each move begins in a truth.
func (y yard) late(plan []int, x truth) []int {
	last := map[int]finished{} // by horse
	late := make([]int, len(plan))
	for _, j := range y.inTime() {
		horse, begins := plan[j.number], j.At
		if before, ok := last[horse]; ok {
			begins = max(begins, before.minute+y.walk(before.job, j))
		}
		late[j.number] = begins - j.At
		last[horse] = finished{job: j, minute: begins + x.takes(j.HorseMove)}
	}
	return late
}

// inTime returns the jobs in the order in which horses do them.
func (y yard) inTime() []job {
	list := y.jobs()
	// Stable, as of two jobs of the same minute the one of the lesser number comes first.
	slices.SortStableFunc(list, func(a, b job) int { return cmp.Compare(a.At, b.At) })
	return list
}

// busy returns how many moves are under way in a minute in a truth, if none is late.
func (y yard) busy(minute int, x truth) int {
	n := 0
	for _, m := range y.Moves {
		if within(minute, m.At, m.At+x.takes(m)-1) {
			n++
		}
	}
	return n
}
