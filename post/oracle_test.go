package post_test

import (
	"math/bits"
	"math/rand/v2"
	"slices"

	"dipworks/api"
)

// What the chapter says, written out for one truth after the other.

// truth is where everybody is: the post first, then the bathers.
type truth []int

func (x truth) at(who int) int { return x[who+1] }

func (x truth) before(a, b int) bool { return x.at(a) < x.at(b) }

func (x truth) right(c api.PostClaim) bool { return x.before(c.A, c.B) != c.Not }

func (x truth) near(a, b int) int { return max(x.at(a)-x.at(b), x.at(b)-x.at(a)) }

// breakers is the set of the bathers who break the by-law.
func (x truth) breakers(p api.Post) (set int) {
	for n, y := range p.Bathers {
		if x.before(n, post) != y.Lady {
			set |= 1 << n
		}
	}
	return set
}

// placings are all ways in which everybody can be at a place of the span, whatever is claimed.
func placings(p api.Post) []truth {
	list := []truth{{}}
	add := func(s api.Span) {
		var longer []truth
		for _, x := range list {
			for n := s.Lo; n <= s.Hi; n++ {
				longer = append(longer, append(slices.Clone(x), n))
			}
		}
		list = longer
	}
	add(p.Post)
	for _, x := range p.Bathers {
		add(x.Place)
	}
	return list
}

// rightOnes is the set of the claims that are right.
func rightOnes(p api.Post, x truth) (set int) {
	for n, c := range p.Claims {
		if x.right(c) {
			set |= 1 << n
		}
	}
	return set
}

// truths are those of some placings in which each claim is right.
func truths(p api.Post, list []truth) (all []truth) {
	for _, x := range list {
		if rightOnes(p, x) == 1<<len(p.Claims)-1 {
			all = append(all, x)
		}
	}
	return all
}

// how is whether something is so in each truth, in some or in none.
func how(all []truth, so func(truth) bool) int {
	n := 0
	for _, x := range all {
		if so(x) {
			n++
		}
	}
	switch n {
	case len(all):
		return 2
	case 0:
		return 0
	}
	return 1
}

// ends is the span of a number, of all truths, and how many numbers of it are those of a truth.
func ends(all []truth, of func(truth) int) (s api.Span, many int) {
	s = span(of(all[0]), of(all[0]))
	seen := map[int]bool{}
	for _, x := range all {
		s = span(min(s.Lo, of(x)), max(s.Hi, of(x)))
		seen[of(x)] = true
	}
	return s, len(seen)
}

// fewest is the set of the fewest, of so many, that is such; of several the least number; -1 if none is.
func fewest(many int, such func(set int) bool) int {
	best := -1
	for set := range 1 << many {
		if (best < 0 || bits.OnesCount(uint(set)) < bits.OnesCount(uint(best))) && such(set) {
			best = set
		}
	}
	return best
}

// possibleByPlacings returns whether a set of claims can be right together, by all placings.
func possibleByPlacings(p api.Post, list []truth) func(set int) bool {
	seen := map[int]bool{}
	for _, x := range list {
		seen[rightOnes(p, x)] = true
	}
	return func(set int) bool {
		for right := range seen {
			if set&^right == 0 {
				return true
			}
		}
		return false
	}
}

// possibleByMoving returns the same without all placings: everybody is at first as far before as can be, and is moved on only if a claim leaves no other way.
func possibleByMoving(p api.Post) func(set int) bool {
	return func(set int) bool {
		x := truth{p.Post.Lo}
		last := []int{p.Post.Hi}
		for _, y := range p.Bathers {
			x, last = append(x, y.Place.Lo), append(last, y.Place.Hi)
		}
		for moved := true; moved; {
			moved = false
			for n, c := range p.Claims {
				if set>>n&1 == 0 || x.right(c) {
					continue
				}
				who, to := c.B, x.at(c.A)+1
				if c.Not {
					who, to = c.A, x.at(c.B)
				}
				if to > last[who+1] {
					return false
				}
				x[who+1], moved = to, true
			}
		}
		return true
	}
}

// Random posts are the same ones each time.
func source(n uint64) *rand.Rand { return rand.New(rand.NewPCG(n, 5)) }

func from(r *rand.Rand, lo, hi int) int { return lo + r.IntN(hi-lo+1) }

// some is a random post of so many bathers, with no span wider than so much, all near to one another; nothing is claimed.
func some(r *rand.Rand, bathers, wide int) api.Post {
	start := r.IntN(api.PostPlaces - wide - 4)
	if r.IntN(8) == 0 {
		start = api.PostPlaces - wide - 5
	}
	place := func() api.Span {
		lo := start + r.IntN(6)
		return span(lo, lo+r.IntN(wide+1))
	}
	p := api.Post{Post: place()}
	for range bathers {
		p.Bathers = append(p.Bathers, api.PostBather{Lady: r.IntN(2) == 0, Place: place()})
	}
	return p
}

// full is a random post of five bathers with wide spans.
func full(r *rand.Rand) api.Post {
	place := func() api.Span {
		a, b := r.IntN(api.PostPlaces+1), r.IntN(api.PostPlaces+1)
		return span(min(a, b), max(a, b))
	}
	p := api.Post{Post: place()}
	for range api.PostBathers {
		p.Bathers = append(p.Bathers, api.PostBather{Lady: r.IntN(2) == 0, Place: place()})
	}
	return p
}

// claim is a random claim.
func claim(r *rand.Rand, p api.Post) api.PostClaim {
	return api.PostClaim{A: from(r, post, len(p.Bathers)-1), B: from(r, post, len(p.Bathers)-1), Not: r.IntN(3) == 0}
}

// claimed is the post with so many random claims more.
func claimed(r *rand.Rand, p api.Post, many int) api.Post {
	p.Claims = slices.Clone(p.Claims)
	for range many {
		p.Claims = append(p.Claims, claim(r, p))
	}
	return p
}

// agreed is the post with so many random claims more, all of which are right in a truth.
func agreed(r *rand.Rand, p api.Post, x truth, many int) api.Post {
	p.Claims = slices.Clone(p.Claims)
	for range many {
		c := claim(r, p)
		c.Not = !x.before(c.A, c.B)
		p.Claims = append(p.Claims, c)
	}
	return p
}

// placing is random places within the spans.
func placing(r *rand.Rand, p api.Post) truth {
	x := truth{from(r, p.Post.Lo, p.Post.Hi)}
	for _, y := range p.Bathers {
		x = append(x, from(r, y.Place.Lo, y.Place.Hi))
	}
	return x
}

// pinned is the post with somebody at one place.
func pinned(p api.Post, who, place int) api.Post {
	if who == post {
		p.Post = span(place, place)
		return p
	}
	p.Bathers = slices.Clone(p.Bathers)
	p.Bathers[who].Place = span(place, place)
	return p
}
