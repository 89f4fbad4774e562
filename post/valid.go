package post

import "dipworks/api"

// valid returns whether a post is valid.
func valid(p api.Post) bool {
	if !isPlaces(p.Post) || len(p.Bathers) > api.PostBathers || len(p.Claims) > api.PostClaims {
		return false
	}
	for _, x := range p.Bathers {
		if !isPlaces(x.Place) {
			return false
		}
	}
	for _, c := range p.Claims {
		if !beach(p).has(c.A) || !beach(p).has(c.B) {
			return false
		}
	}
	return true
}

// isPlaces returns whether a span is one of places.
func isPlaces(s api.Span) bool {
	return 0 <= s.Lo && s.Lo <= s.Hi && s.Hi <= api.PostPlaces
}
