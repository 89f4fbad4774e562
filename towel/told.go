package towel

import "dipworks/api"

// sum returns the sum of numbers.
func sum(numbers ...int) int {
	total := 0
	for _, n := range numbers {
		total += n
	}
	return total
}

// extent is from the least to the greatest of the numbers of all truths.
type extent api.Span

// plus returns the extent when a bather has kept so many more.
func (x extent) plus(k kept) extent {
	return extent{Lo: sum(x.Lo, k.many), Hi: sum(x.Hi, k.many)}
}

// or returns the extent of the numbers of both.
func (x extent) or(other extent) extent {
	return extent{Lo: min(x.Lo, other.Lo), Hi: max(x.Hi, other.Hi)}
}

// keptInAll tells how many towels all bathers have kept together.
func keptInAll() tale[extent] {
	return tale[extent]{more: extent.plus, either: extent.or}
}

// keptBy tells how many a bather has kept.
func keptBy(bather int) tale[extent] {
	t := keptInAll()
	t.more = func(x extent, k kept) extent {
		if k.bather == bather {
			return x.plus(k)
		}
		return x
	}
	return t
}

// counted tells how many truths there are.
func counted() tale[int] {
	return tale[int]{
		nobody: 1,
		more:   func(n int, _ kept) int { return n },
		either: func(n, other int) int { return sum(n, other) },
	}
}

// keeps returns the set with a bather more, if this one has kept any.
func (s set) keeps(k kept) set {
	if k.many > 0 {
		s |= one(k.bather)
	}
	return s
}

// fewestKeepers tells which bathers have kept any, where the fewest have.
func fewestKeepers() tale[set] {
	return tale[set]{more: set.keeps, either: set.fewer}
}

// both is who has kept any in each truth, and who has in some.
type both struct{ surely, perhaps set }

func (x both) keeps(k kept) both {
	return both{x.surely.keeps(k), x.perhaps.keeps(k)}
}

func (x both) or(other both) both {
	return both{x.surely & other.surely, x.perhaps | other.perhaps}
}

// keepers tells who has kept any, surely and perhaps.
func keepers() tale[both] {
	return tale[both]{more: both.keeps, either: both.or}
}
