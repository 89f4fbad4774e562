package surf

import "dipworks/api"

// notDrawn stands for the hour in which a hut is drawn in that is not.
const notDrawn = -1

// rescue is how many huts can be drawn in in an hour, how many there are, which of them can float, and the first hour in which each of these can.
type rescue struct {
	many, huts int
	floating   set
	floats     [api.SurfHuts]int
}

// plan is in which hour each hut is drawn in, the huts that are left, and whether there are such hours.
type plan struct {
	hours []int
	left  set
	found bool
}

// possible returns whether a plan can be carried out.
func (p plan) possible() bool {
	return p.found
}

// rescue returns what has to be saved.
func (s shore) rescue(many int) rescue {
	r := rescue{many: many, huts: len(s.Huts)}
	for number, hut := range s.Huts {
		if hours := s.told(hut).perhaps; hours != 0 {
			r.floating = join(r.floating, one(number))
			r.floats[number] = hours.least()
		}
	}
	return r
}

// best returns the plan that leaves the fewest huts.
func (r rescue) best() plan {
	// If all are left nothing is to be done, so that one of the plans is possible.
	return first(wanted[plan]{enough: plan.possible}, r.plans)
}

// plans yields a plan for each set of huts that can be left, the best one first.
func (r rescue) plans(yield func(plan) bool) {
	for left := range r.floating.parts {
		if !yield(r.plan(left)) {
			return
		}
	}
}

// plan returns the first list of hours, lexicographically, by which all huts that can float are drawn in, but those that are left.
func (r rescue) plan(left set) plan {
	var hours [api.SurfHuts]int
	var drawn [api.SurfHours]int // how many huts, by hour
	var draw func(hut int) bool
	draw = func(hut int) bool {
		if hut == r.huts {
			return true
		}
		hours[hut] = notDrawn
		if left.has(hut) || !r.floating.has(hut) {
			return draw(hut + 1)
		}
		for hour := range r.floats[hut] {
			if drawn[hour] == r.many {
				continue
			}
			hours[hut] = hour
			drawn[hour]++
			if draw(hut + 1) {
				return true
			}
			drawn[hour]--
		}
		return false
	}
	found := draw(0)
	list := make([]int, r.huts)
	copy(list, hours[:])
	return plan{hours: list, left: left, found: found}
}
