package horse

import "dipworks/api"

// team is how few horses are enough, and what each does.
type team struct {
	many int
	plan []int
}

// team returns the fewest horses that are enough, by the first right plan.
func (y yard) team(o order) team {
	many := fewest(y.jobs(), o.can)
	return team{many: many, plan: y.firstPlan(o, many)}
}

// fewest returns how few horses are enough for jobs. Each job is matched with one that its horse does next, as many as can be; as order is transitive, there is a horse for each job that has none next.
func fewest(jobs []job, can func(first, second job) bool) int {
	before := map[job]job{} // by the job that comes next
	var tried set
	var match func(first job) bool
	match = func(first job) bool {
		for _, second := range jobs {
			if tried.has(second.number) || !can(first, second) {
				continue
			}
			tried = join(tried, one(second.number))
			other, taken := before[second]
			if !taken || match(other) {
				before[second] = first
				return true
			}
		}
		return false
	}
	many := 0
	for _, j := range jobs {
		tried = 0
		if !match(j) {
			many++
		}
	}
	return many
}

// firstPlan returns the first right plan of so many horses; they must be enough.
func (y yard) firstPlan(o order, many int) []int {
	var plan [api.HorseMoves]int
	var does [api.HorseMoves]set
	var give func(move int) bool
	give = func(move int) bool {
		if move == len(y.Moves) {
			return true
		}
		for horse := range many {
			had := does[horse]
			if !y.fits(o, had, move) {
				continue
			}
			plan[move] = horse
			does[horse] = join(had, one(move))
			if give(move + 1) {
				return true
			}
			does[horse] = had
		}
		return false
	}
	give(0)
	list := make([]int, len(y.Moves))
	copy(list, plan[:])
	return list
}

// fits returns whether a horse that does some moves can do one more.
func (y yard) fits(o order, does set, move int) bool {
	for other := range y.Moves {
		if does.has(other) && !o.linked(other, move) {
			return false
		}
	}
	return true
}

// proof returns the most moves of which no one can follow another one.
func (y yard) proof(o order) set {
	return best(choice[set]{fits: o.apart, better: set.larger}, eachSet(len(y.Moves)))
}

// leave returns the fewest moves without which so many horses are enough for all others.
func (y yard) leave(o order, many int) set {
	moves := len(y.Moves)
	// If all are left out no horse is needed, so that nothing has to be tried.
	left := all(moves)
tries:
	for size := range moves {
		for s := range eachSet(moves) {
			if s.size() == size && fewest(y.without(s), o.can) <= many {
				left = s
				break tries
			}
		}
	}
	return left
}

// without returns the jobs that are not in a set.
func (y yard) without(s set) []job {
	var list []job
	for _, j := range y.jobs() {
		if !s.has(j.number) {
			list = append(list, j)
		}
	}
	return list
}
