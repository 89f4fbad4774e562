package ticket

import (
	"iter"
	"maps"

	"dipworks/api"
)

// extent is the span of a number that each of some values has.
type extent[T any] struct {
	number func(T) int
}

// over returns the span of the numbers of all values, in whichever order they come; there must be one.
func (x extent[T]) over(values iter.Seq[T]) api.Span {
	var s api.Span
	begun := false
	for v := range values {
		n := x.number(v)
		if !begun {
			s, begun = api.Span{Lo: n, Hi: n}, true
		}
		s = api.Span{Lo: min(s.Lo, n), Hi: max(s.Hi, n)}
	}
	return s
}

// span returns the span, of all truths, of a number.
func (d desk) span(number func(truth) int) api.Span {
	return extent[truth]{number: number}.over(d.truths())
}

// stay is the spans of both minutes of a ticket.
type stay struct{ bought, door api.Span }

// stay returns from when to when a ticket was bought, and its door was closed.
func (d desk) stay(ticket int) stay {
	found := map[minutes]bool{}
	for x := range d.truths() {
		found[x[ticket]] = true
	}
	bought := extent[minutes]{number: func(m minutes) int { return m.bought }}
	door := extent[minutes]{number: func(m minutes) int { return m.door }}
	return stay{bought: bought.over(maps.Keys(found)), door: door.over(maps.Keys(found))}
}
