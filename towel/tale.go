package towel

import "dipworks/api"

// kept is how many towels a bather has kept.
type kept struct{ bather, many int }

// tale is how something is found that is told of truths. In which order truths are put together must make no difference.
type tale[T any] struct {
	// nobody is what is told before any bather is looked at.
	nobody T
	// more returns what is told when the next bather has kept so many.
	more func(T, kept) T
	// either returns what is told of two kinds of truths together.
	either func(T, T) T
}

// put tells of truths besides what is told already of those with the same sums.
func (t tale[T]) put(all map[sums]T, s sums, x T) {
	if had, is := all[s]; is {
		x = t.either(had, x)
	}
	all[s] = x
}

// tell returns what is told of all truths, and whether there is one. Truths whose sums are the same so far go on in the same ways, so they are gone on with together.
func tell[T any](l looked, t tale[T]) (T, bool) {
	now := map[sums]T{{}: t.nobody}
	for n, w := range l.bathers {
		next := map[sums]T{}
		for s, x := range now {
			for many := range w.canHaveKept {
				after := l.plus(s, w, many)
				if !l.within(after) {
					break // Nor can the bather have kept more.
				}
				t.put(next, after, t.more(x, kept{n, many}))
			}
		}
		now = next
	}
	all := map[sums]T{}
	for s, x := range now {
		if l.right(s) {
			t.put(all, sums{}, x)
		}
	}
	x, is := all[sums{}]
	return x, is
}

// toldSurely returns what is told of all truths. It refuses the call if there is none.
func toldSurely[T any](l looked, t tale[T]) T {
	x, is := tell(l, t)
	require(is, api.ErrClash)
	return x
}

// told is the work of those functions that return what is told of all truths, some of a bather.
func told[T any](t api.Towels, x tale[T], bathers ...int) (T, api.Errno) {
	return attempt(func() T { return toldSurely(check(t, bathers...), x) })
}
