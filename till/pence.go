package till

import "dipworks/api"

// pence is an amount of money.
type pence int

// count is how many times something is due, minutes is how long somebody waits.
type (
	count   int
	minutes int
)

// times returns what the amount comes to if it is due so many times.
func (p pence) times(n count) pence {
	return p * pence(n)
}

// forWaiting returns what the amount comes to if it is due for each whole ten minutes.
func (p pence) forWaiting(m minutes) pence {
	return p.times(count(m / api.TillMinutes))
}

// isBeyond returns whether the amount is none that a till can have for one time.
func (p pence) isBeyond() bool {
	return !isWithin(int(p), 0, api.TillPence)
}

// sum returns what amounts, or parts, come to together.
func sum[N ~int](all ...N) N {
	var together N
	for _, n := range all {
		together += n
	}
	return together
}

// rate is what is due for a number: the more, the greater it is, or the same.
type rate[N ~int] struct {
	of func(N) pence
}

// spanOf returns the span of what is due for the numbers of a span. As nothing less is due for a greater number its ends are what is due for theirs.
func spanOf[N ~int](numbers api.Span, r rate[N]) api.Span {
	return api.Span{Lo: int(r.of(N(numbers.Lo))), Hi: int(r.of(N(numbers.Hi)))}
}
