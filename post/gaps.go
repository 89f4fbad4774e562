package post

import (
	"iter"

	"dipworks/api"
)

// pair is two who are compared.
type pair struct{ a, b int }

// turned returns the pair the other way round.
func (p pair) turned() pair {
	return pair{p.b, p.a}
}

// gaps is by how many places A can be further on than B, for each pair of all on a beach; below 0 A is before B.
type gaps map[pair]api.Span

// narrow takes it that the gap of a pair is within a span. A gap that cannot be is one from a greater number to a lesser one.
func (g gaps) narrow(p pair, to api.Span) {
	old := g[p]
	s := api.Span{Lo: max(old.Lo, to.Lo), Hi: min(old.Hi, to.Hi)}
	if s != old {
		g[p] = s
		g[p.turned()] = turned(s)
	}
}

// settle narrows each gap to what the ways by all others leave of it, and returns whether all gaps can be. What is left is exact, down to the last place: rules and spans bound nothing but differences.
func (g gaps) settle(everybody iter.Seq[int]) bool {
	can := true
look:
	for by := range everybody {
		for a := range everybody {
			for b := range everybody {
				p := pair{a, b}
				g.narrow(p, sum(g[pair{a, by}], g[pair{by, b}]))
				if gap := g[p]; gap.Lo > gap.Hi {
					can = false
					break look // No look at others makes up for it.
				}
			}
		}
	}
	return can
}

// place returns where one can have been.
func (g gaps) place(who int) api.Span {
	return g[pair{who, theEdge}]
}

// order returns whether A was before B: never, perhaps or always.
func (g gaps) order(p pair) int {
	switch gap := g[p]; {
	case gap.Hi < 0:
		return api.PostAlways
	case gap.Lo < 0:
		return api.PostPerhaps
	}
	return api.PostNever
}

// near returns by how many places A and B differ, whoever of them is before the other one.
func (g gaps) near(p pair) api.Span {
	gap := g[p]
	switch {
	case gap.Lo > 0:
		return gap
	case gap.Hi < 0:
		return turned(gap)
	}
	return api.Span{Lo: 0, Hi: max(-gap.Lo, gap.Hi)}
}

// sum returns the span of all sums of a number of one span and a number of the other one.
func sum(s, other api.Span) api.Span {
	return api.Span{Lo: s.Lo + other.Lo, Hi: s.Hi + other.Hi}
}

// turned returns the span of the same numbers with the other sign.
func turned(s api.Span) api.Span {
	return api.Span{Lo: -s.Hi, Hi: -s.Lo}
}
