package horse

import "dipworks/api"

// yard is valid horses.
type yard struct{ api.Horses }

// job is a move with its number, as two moves can be equal.
type job struct {
	api.HorseMove
	number int
}

// jobs returns the moves with their numbers.
func (y yard) jobs() []job {
	var list []job
	for i, m := range y.Moves {
		list = append(list, job{HorseMove: m, number: i})
	}
	return list
}

// walk returns how many minutes a horse walks from a job to another one.
func (y yard) walk(from, to job) int {
	return y.Pace * max(from.Place-to.Place, to.Place-from.Place)
}

// order is, for each move, the set of the moves that can follow it.
type order [api.HorseMoves]set

// order returns which move can follow which one in a truth.
func (y yard) order(x truth) order {
	var o order
	jobs := y.jobs()
	for _, first := range jobs {
		done := first.At + x.takes(first.HorseMove)
		for _, second := range jobs {
			if second.At >= done+y.walk(first, second) {
				o[first.number] = join(o[first.number], one(second.number))
			}
		}
	}
	return o
}

// can returns whether the second job can follow the first one.
func (o order) can(first, second job) bool {
	return o[first.number].has(second.number)
}

// linked returns whether of two moves one can follow the other one.
func (o order) linked(a, b int) bool {
	return o[a].has(b) || o[b].has(a)
}

// apart returns whether of a set of moves no one can follow another one.
func (o order) apart(s set) bool {
	for move, after := range o {
		if s.has(move) && s&after != 0 {
			return false
		}
	}
	return true
}

// follows returns whether the second job can follow the first one: never, perhaps or always.
func (y yard) follows(first, second job) int {
	switch {
	case y.order(slowest{}).can(first, second):
		return api.HorseAlways
	case y.order(fastest{}).can(first, second):
		return api.HorsePerhaps
	}
	return api.HorseNever
}
