package tide

import "dipworks/api"

// Between two marks the water moves in six parts: twelfths is how many twelfths it has moved before each part, and behind the last one; more is how many it moves in each part.
var (
	twelfths = [7]int{0, 1, 3, 6, 9, 11, 12}
	more     = [7]int{1, 2, 3, 3, 2, 1, 0}
)

// heights is how high the water stands at each mark.
type heights [api.TideMarks]int

// way is how far the water has moved from a mark to the next one: moved, of whole.
type way struct{ mark, moved, whole int }

// at returns how high the water stands when it has moved so far.
func (h heights) at(w way) int {
	before, behind := h[w.mark], h[w.mark+1]
	return (before*(w.whole-w.moved) + behind*w.moved) / w.whole
}

// moment is a minute, and how high the marks before it and behind it are.
type moment struct{ minute, before, behind int }

// gauge tells how high the water stands, and keeps what it has told: heights that differ only at other marks have the same moment.
type gauge struct {
	marks  []api.TideMark
	reckon func(heights, way) int
	known  map[moment]int
}

func newGauge(marks []api.TideMark) gauge {
	return gauge{marks: marks, reckon: heights.at, known: map[moment]int{}}
}

// level returns how high the water stands at a minute of the tide.
func (g gauge) level(h heights, minute int) int {
	mark := g.before(minute)
	m := moment{minute: minute, before: h[mark], behind: h[mark+1]}
	n, ok := g.known[m]
	if !ok {
		n = g.reckon(h, g.moved(mark, minute))
		g.known[m] = n
	}
	return n
}

// before returns the mark before a minute, but never the last one, so that there always is a mark behind it.
func (g gauge) before(minute int) int {
	mark := 0
	for mark+2 < len(g.marks) && g.marks[mark+1].Minute <= minute {
		mark++
	}
	return mark
}

// moved returns how far the water has moved at a minute from the mark before it.
func (g gauge) moved(mark, minute int) way {
	from, to := g.marks[mark].Minute, g.marks[mark+1].Minute
	long := to - from
	parts, rest := 6*(minute-from)/long, 6*(minute-from)%long
	return way{mark: mark, moved: twelfths[parts]*long + more[parts]*rest, whole: 12 * long}
}
