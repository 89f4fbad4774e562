package post

import "dipworks/api"

// rule is what holds of the places of two.
type rule interface {
	// apply narrows the gap of the two.
	apply(narrow func(p pair, to api.Span))
}

// isBefore is the rule that A is before B.
type isBefore struct{ two pair }

func (r isBefore) apply(narrow func(p pair, to api.Span)) {
	narrow(r.two, api.Span{Lo: -api.PostPlaces, Hi: -1})
}

// isNotBefore is the rule that A is not before B.
type isNotBefore struct{ isBefore }

func (r isNotBefore) apply(narrow func(p pair, to api.Span)) {
	narrow(r.two, api.Span{Lo: 0, Hi: api.PostPlaces})
}

// rulesOf returns the rules that hold if claims are right.
func rulesOf(claims []api.PostClaim) []rule {
	var list []rule
	for _, c := range claims {
		before := isBefore{pair{c.A, c.B}}
		if c.Not {
			list = append(list, isNotBefore{before})
		} else {
			list = append(list, before)
		}
	}
	return list
}
