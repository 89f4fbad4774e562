package serve

import (
	"iter"

	"dipworks/api"
	"dipworks/tide"
)

// beach is a valid serve, and what the tide tells of it.
type beach struct {
	api.Serve
	// right is, for each bather, the places that are right.
	right [api.ServeBathers]set
}

func newBeach(s api.Serve) *beach {
	b := &beach{Serve: s}
	for n, bather := range s.Bathers {
		b.right[n] = rightPlaces(s.Tide, bather)
	}
	return b
}

// rightPlaces returns the places that are right for a bather.
func rightPlaces(t api.Tide, b api.ServeBather) set {
	right := first(len(t.Sand))
	for minute := b.From; minute < b.To && right != 0; minute++ {
		surely, _, e := tide.Places(t, minute, b.Least, b.Most)
		require(e == api.OK, e)
		right &= set(surely)
	}
	return right
}

// everybody returns the set of all bathers.
func (b *beach) everybody() set {
	return first(len(b.Bathers))
}

// unserved returns the first bather with whom, and all those before in number, not all can be served. It refuses the call if everybody can.
func (b *beach) unserved() int {
	for bather := range b.Bathers {
		if b.ways(first(bather+1)) == 0 {
			return bather
		}
	}
	panic(api.ErrNone)
}

// drops goes through the sets of bathers without whom all others can be served, the least one first.
func (b *beach) drops() iter.Seq[set] {
	return func(yield func(set) bool) {
		all := b.everybody()
		for dropped := range all + 1 {
			if b.ways(all.without(dropped)) > 0 && !yield(dropped) {
				return
			}
		}
	}
}
