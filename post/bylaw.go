package post

import "dipworks/api"

// The sides of the post, as the by-law sees them.
const (
	rightSide = iota
	wrongSide
)

// sides returns the rule by which a bather is on the right side of the post, and the one by which it is the wrong one.
func (b beach) sides(bather int) [2]rule {
	before := isBefore{pair{bather, thePost}}
	behind := isNotBefore{before}
	if b.Bathers[bather].Lady {
		return [2]rule{rightSide: before, wrongSide: behind}
	}
	return [2]rule{rightSide: behind, wrongSide: before}
}

// broken returns the rules that hold if some bathers break the by-law, and no others.
func (b beach) broken(by set) []rule {
	var list []rule
	for bather := range b.Bathers {
		side := rightSide
		if by.has(bather) {
			side = wrongSide
		}
		list = append(list, b.sides(bather)[side])
	}
	return list
}

// breakers returns each set of bathers who break the by-law in some truth in which no others do; sets of fewer come first. It refuses the call if there is no truth.
func (b beach) breakers() []set {
	claims := rulesOf(b.Claims)
	var list []set
	for s := range bySize(len(b.Bathers)) {
		if b.can(claims, b.broken(s)) {
			list = append(list, s)
		}
	}
	// In each truth there is such a set, be it that of nobody.
	require(len(list) > 0, api.ErrClash)
	return list
}

// breaks is who breaks the by-law in each truth, and who does in some.
type breaks struct{ surely, perhaps set }

// breaksOf returns who breaks the by-law, by the sets of those who do.
func breaksOf(breakers []set) breaks {
	x := breaks{surely: breakers[0]}
	for _, s := range breakers {
		x.surely &= s
		x.perhaps |= s
	}
	return x
}

// howMany returns how many bathers break the by-law, by the sets of those who do; those of fewer come first.
func howMany(breakers []set) api.Span {
	return api.Span{Lo: breakers[0].size(), Hi: breakers[len(breakers)-1].size()}
}

// kept returns whether the by-law is kept if so many break it: never, perhaps or always.
func kept(many api.Span) int {
	switch {
	case many.Lo > 0:
		return api.PostNever
	case many.Hi > 0:
		return api.PostPerhaps
	}
	return api.PostAlways
}
