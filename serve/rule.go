package serve

import "dipworks/api"

// keeps stands for the rule that a bather breaks who breaks none.
const keeps = 0

// rule is what a bather can break.
type rule interface {
	number() int
	broken(t trial, bather int) bool
}

// depth is that the place is right for the bather.
type depth struct{}

func (depth) number() int {
	return api.ServeDepth
}

func (depth) broken(t trial, bather int) bool {
	return !t.right[bather].has(t.plan[bather])
}

// late is that the hut is there when the bather comes, from where it was for the bather before.
type late struct{}

func (late) number() int {
	return api.ServeLate
}

func (late) broken(t trial, bather int) bool {
	last, is := t.before(bather)
	return is && !t.inTime(stand{place: t.plan[last.number], since: last.To}, t.plan[bather], t.Bathers[bather].From)
}

// breaks returns the first rule that a bather breaks.
func (t trial) breaks(bather int) int {
	for _, r := range []rule{depth{}, late{}} {
		if r.broken(t, bather) {
			return r.number()
		}
	}
	return keeps
}

// fault is that a bather breaks a rule.
type fault struct{ bather, rule int }

// fault returns what the first bather breaks who breaks a rule, and no rule if the plan is right.
func (t trial) fault() fault {
	return firstFault(len(t.plan), t.breaks)
}

// firstFault returns the first fault of so many bathers, and no rule if nobody breaks one.
func firstFault(bathers int, breaks func(bather int) int) fault {
	for bather := range bathers {
		if rule := breaks(bather); rule != keeps {
			return fault{bather: bather, rule: rule}
		}
	}
	return fault{rule: keeps}
}
