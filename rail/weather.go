package rail

import "dipworks/api"

// weather is that of one truth, in which all else is as good, or as bad, as the weather.
type weather interface {
	rains(hour int) bool
	shines(hour int) bool
	// of returns which number of a span is the true one, where fewer are better: of how wet a line is, and how many towels are kept.
	of(s api.Span) int
}

// best is the weather if it rains only when it has to.
type best struct{ rain, sun hours }

func (b best) rains(hour int) bool {
	return b.rain.has(hour)
}

func (b best) shines(hour int) bool {
	return b.sun.has(hour)
}

func (b best) of(s api.Span) int {
	return s.Lo
}

// worst is the weather if it rains whenever it can; the sun is the same.
type worst struct {
	best
	perhaps hours
}

func (w worst) rains(hour int) bool {
	return w.best.rains(hour) || w.perhaps.has(hour)
}

func (w worst) of(s api.Span) int {
	return s.Hi
}

// amounts is by how much each hour dries what hangs in it.
type amounts [api.RailHours]int

// amountsIn returns by how much the hours, so many, dry in a weather.
func amountsIn(w weather, many int) amounts {
	var by amounts
	for hour := range until(many).up() {
		by[hour] = amount(w, hour)
	}
	return by
}

// amount returns by how much an hour dries. Rain comes before sun: of some hours both are told.
func amount(w weather, hour int) int {
	switch {
	case w.rains(hour):
		return 0
	case w.shines(hour):
		return 2
	default:
		return 1
	}
}
