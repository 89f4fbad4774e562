package post

import "dipworks/api"

// Bathers go by their numbers; those who are none have numbers below 0.
const (
	thePost = -1
	// theEdge is always at the place 0, so that how far one is from it is the place.
	theEdge = -2
)

// beach is a post that is valid.
type beach api.Post

// has returns whether a number is that of somebody: of the post, or of a bather.
func (b beach) has(who int) bool {
	return thePost <= who && who < len(b.Bathers)
}

// everybody goes through all whose places are looked at: the edge, the post, and the bathers.
func (b beach) everybody(yield func(who int) bool) {
	for who := theEdge; who < len(b.Bathers); who++ {
		if !yield(who) {
			return
		}
	}
}

// given returns the places that are given for one.
func (b beach) given(who int) api.Span {
	switch who {
	case theEdge:
		return api.Span{}
	case thePost:
		return b.Post
	}
	return b.Bathers[who].Place
}

// free returns the gaps as they are without any rule.
func (b beach) free() gaps {
	everybody := len(b.Bathers) - theEdge
	g := make(gaps, everybody*everybody)
	for who := range b.everybody {
		for other := range b.everybody {
			g[pair{who, other}] = sum(b.given(who), turned(b.given(other)))
		}
		g[pair{who, who}] = api.Span{}
	}
	return g
}

// settled returns the gaps of all truths in which the rules of all lists hold. It refuses the call if there is none.
func (b beach) settled(lists ...[]rule) gaps {
	g := b.free()
	for _, list := range lists {
		for _, r := range list {
			r.apply(g.narrow)
		}
	}
	require(g.settle(b.everybody), api.ErrClash)
	return g
}

// can returns whether there is a truth in which the rules of all lists hold.
func (b beach) can(lists ...[]rule) bool {
	_, e := attempt(func() gaps { return b.settled(lists...) })
	return e == api.OK
}

// told returns the gaps of all truths.
func (b beach) told() gaps {
	return b.settled(rulesOf(b.Claims))
}
