package flag

import (
	"iter"

	"dipworks/api"
)

// finding is how something is found by hours.
type finding[T any] struct {
	// of returns what is found of an hour alone.
	of func(hour int) T
	// and puts together what is found of the hours before, and of one hour more.
	and func(before, more T) T
}

// found returns what is found by hours, if begin is what is known before them.
func found[T any](hours iter.Seq[int], begin T, f finding[T]) T {
	all := begin
	for hour := range hours {
		all = f.and(all, f.of(hour))
	}
	return all
}

// ups is in which hours the flag was up, surely and perhaps.
type ups struct{ surely, perhaps set }

func (u ups) and(more ups) ups {
	return ups{surely: u.surely | more.surely, perhaps: u.perhaps | more.perhaps}
}

// up returns the hour as one of those in which the flag was up, if it was.
func (x looked) up(hour int) ups {
	switch x.under(hour, hour+1) {
	case api.FlagAlways:
		return ups{surely: one(hour), perhaps: one(hour)}
	case api.FlagPerhaps:
		return ups{perhaps: one(hour)}
	}
	return ups{}
}

func (x looked) ups() ups {
	return found(x.hours(0), ups{}, finding[ups]{of: x.up, and: ups.and})
}

// firstDown returns the first hour, from one on, in which the flag was up in no truth. It refuses the call if there is none.
func (x looked) firstDown(from int) int {
	down := len(x.Hours)
hours:
	for hour := range x.hours(from) {
		if x.under(hour, hour+1) == api.FlagNever {
			down = hour
			break hours
		}
	}
	require(isHour(x.Flag, down), api.ErrNone)
	return down
}

// question is an hour of which one can ask, and in how many truths at most one is left with the answer.
type question struct{ hour, left int }

// or returns the question that leaves fewer truths, or else the first one.
func (q question) or(other question) question {
	if other.left < q.left {
		return other
	}
	return q
}

func (x looked) question(hour int) question {
	var left []int
	for _, k := range every() {
		left = append(left, x.count(ofKind{hour: hour, kind: k}))
	}
	return question{hour: hour, left: greatest(left...)}
}

// greatest returns the greatest one of numbers that are not below 0.
func greatest(numbers ...int) int {
	most := 0
	for _, n := range numbers {
		most = max(most, n)
	}
	return most
}

// ask returns the best question. It refuses the call if there is one truth alone.
func (x looked) ask() question {
	require(x.truths() > 1, api.ErrRefuse)
	return found(x.hours(1), x.question(0), finding[question]{of: x.question, and: question.or})
}
