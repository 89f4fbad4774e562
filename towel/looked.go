package towel

import "dipworks/api"

// looked is towels that are valid, and which counts of them are looked at.
type looked struct {
	api.Towels
	at counts
}

// words returns what is known of a bather.
func (l looked) words(bather int) words {
	return words(l.Bathers[bather])
}

// bathers goes through all bathers, with their numbers.
func (l looked) bathers(yield func(n int, w words) bool) {
	for n := range l.Bathers {
		if !yield(n, l.words(n)) {
			return
		}
	}
}

// sums is how many towels were kept so far of each hut and of each half hour of which the count is looked at. Of the others it is 0, so that nothing is told apart that no count can tell apart.
type sums struct {
	huts   [api.TowelHuts]int
	halves [api.TowelHalves]int
}

// plus returns the sums when a bather has kept so many more.
func (l looked) plus(s sums, w words, many int) sums {
	if l.at.hut(w.Hut) {
		s.huts[w.Hut] += many
	}
	if l.at.half(w.Half) {
		s.halves[w.Half] += many
	}
	return s
}

// each returns whether something is so of each count that is looked at and of what was kept of it.
func (l looked) each(s sums, so func(count api.Span, many int) bool) bool {
	for n, count := range l.Huts {
		if l.at.hut(n) && !so(count, s.huts[n]) {
			return false
		}
	}
	for n, count := range l.Halves {
		if l.at.half(n) && !so(count, s.halves[n]) {
			return false
		}
	}
	return true
}

// right returns whether all counts that are looked at are right of these sums.
func (l looked) right(s sums) bool {
	return l.each(s, func(count api.Span, many int) bool { return count.Lo <= many && many <= count.Hi })
}

// within returns whether no count that is looked at is passed yet. One that is can never be right again.
func (l looked) within(s sums) bool {
	return l.each(s, func(count api.Span, many int) bool { return many <= count.Hi })
}

// truths returns how many truths there are.
func (l looked) truths() int {
	n, _ := tell(l, counted())
	return n
}

// clash returns the fewest counts such that with these alone there is no truth. It refuses the call if there is one with all.
func (l looked) clash() only {
	require(l.truths() == 0, api.ErrNone)
	var found only
	for some := range onlySome(len(l.Huts), len(l.Halves)) {
		l.at = some
		if l.truths() == 0 {
			found = some
			break
		}
	}
	return found
}
