package serve

import (
	"cmp"
	"maps"
	"slices"

	"dipworks/api"
)

// guest is a bather, with the number.
type guest struct {
	api.ServeBather
	number int
}

// order is below 0 if the guest comes before another one of the same hut, and above 0 if behind.
func (g guest) order(other guest) int {
	return cmp.Or(cmp.Compare(g.From, other.From), cmp.Compare(g.number, other.number))
}

// queue returns those of some bathers who come to a hut, in their order.
func (b *beach) queue(hut int, who set) []guest {
	var queue []guest
	for n, bather := range b.Bathers {
		if bather.Hut == hut && who.has(n) {
			queue = append(queue, guest{ServeBather: bather, number: n})
		}
	}
	slices.SortFunc(queue, guest.order)
	return queue
}

// before returns the bather before one, and whether there is one.
func (b *beach) before(bather int) (last guest, is bool) {
	for _, g := range b.queue(b.Bathers[bather].Hut, b.everybody()) {
		if g.number == bather {
			break
		}
		last, is = g, true
	}
	return last, is
}

// stand is at which place a hut is, and since which minute nobody is in it.
type stand struct{ place, since int }

// anywhere returns how a hut stands before its first bather: it has had the time to be moved to any place.
func anywhere() stand {
	return stand{since: -api.ServeSoft * api.TidePlaces}
}

// inTime returns whether a hut surely can be at a place at a minute.
func (b *beach) inTime(from stand, place, minute int) bool {
	return from.since+b.Soft.Hi*apart(from.place, place) <= minute
}

// apart returns how many places there are between two places.
func apart(a, b int) int {
	return max(a-b, b-a)
}

// ways returns how many plans are right for some of the bathers, if nobody else comes. Each hut goes its own way, whatever the others do.
func (b *beach) ways(who set) int {
	ways := 1
	for hut := range api.ServeHuts {
		ways *= b.waysOf(b.queue(hut, who))
	}
	return ways
}

// waysOf returns in how many ways a hut can serve those who come to it.
func (b *beach) waysOf(queue []guest) int {
	ways := map[stand]int{anywhere(): 1}
	for _, g := range queue {
		ways = b.waysOn(ways, g)
	}
	return sum(slices.Collect(maps.Values(ways))...)
}

// waysOn returns in how many ways a hut can stand so after one guest more.
func (b *beach) waysOn(ways map[stand]int, g guest) map[stand]int {
	after := map[stand]int{}
	for place := range b.Tide.Sand {
		if !b.right[g.number].has(place) {
			continue
		}
		for from, many := range ways {
			if b.inTime(from, place, g.From) {
				after[stand{place: place, since: g.To}] += many
			}
		}
	}
	return after
}
