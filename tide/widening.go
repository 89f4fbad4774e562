package tide

import (
	"iter"

	"dipworks/api"
)

// widening is a span that is widened by what a function tells of each value.
type widening[T any] struct {
	of    func(T) int
	span  api.Span
	begun bool
}

// over returns the span from the least to the greatest number that is told of the values; there must be one.
func (w *widening[T]) over(values iter.Seq[T]) api.Span {
	for v := range values {
		w.take(w.of(v))
	}
	return w.span
}

func (w *widening[T]) take(n int) {
	if !w.begun {
		w.span, w.begun = api.Span{Lo: n, Hi: n}, true
		return
	}
	w.span = api.Span{Lo: min(w.span.Lo, n), Hi: max(w.span.Hi, n)}
}
