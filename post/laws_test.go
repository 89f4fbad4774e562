package post_test

import (
	"math/bits"
	"math/rand/v2"
	"slices"
	"testing"

	"dipworks/api"
	law "dipworks/post"
)

// P5.1 to P5.8, of many posts, against all truths.
func TestAgainstAllTruths(t *testing.T) {
	const many = 600
	clashes, kept := 0, map[int]int{}
	for seed := range uint64(many) {
		r := source(seed)
		p := some(r, r.IntN(api.PostBathers+1), 3)
		if seed%4 == 0 {
			p = some(r, r.IntN(4), 7)
		}
		if seed%3 == 0 {
			p = claimed(r, p, r.IntN(api.PostClaims+1))
		} else {
			p = claimed(r, agreed(r, p, placing(r, p), r.IntN(api.PostClaims)), r.IntN(2))
		}
		if all := checkPost(t, p); len(all) == 0 {
			clashes++
		} else {
			kept[how(all, func(x truth) bool { return x.breakers(p) == 0 })]++
		}
	}
	if clashes < many/10 || clashes > many*9/10 || kept[0] < many/20 || kept[1] < many/20 || kept[2] < many/20 {
		t.Error("the posts do not test all cases", clashes, kept)
	}
}

// The same of few bathers who can be anywhere.
func TestAgainstAllTruthsOfWideSpans(t *testing.T) {
	for seed := range uint64(40) {
		r := source(1000 + seed)
		p := full(r)
		p.Bathers = p.Bathers[:r.IntN(3)]
		checkPost(t, claimed(r, p, r.IntN(4)))
	}
}

// checkPost looks at all that is told of a post, and returns its truths.
func checkPost(t *testing.T, p api.Post) []truth {
	list := placings(p)
	all := truths(p, list)
	checkClaims(t, p, possibleByPlacings(p, list))
	if len(all) > 0 {
		checkPlaces(t, p, all)
		checkByLaw(t, p, all)
		return all
	}
	for _, f := range calls() {
		if e, other := f.do(p, post, post); !f.ofClaims() && (e != api.ErrClash || other != zero) {
			t.Error(f.name, p, e, other)
		}
	}
	return nil
}

// checkClaims looks at False and Clash; possible is whether a set of claims can be right together.
func checkClaims(t *testing.T, p api.Post, possible func(set int) bool) {
	every := 1<<len(p.Claims) - 1
	left := fewest(len(p.Claims), func(set int) bool { return possible(every &^ set) })
	if n, s, e := law.False(p); n != bits.OnesCount(uint(left)) || s != left || e != api.OK {
		t.Error("False", p, n, s, e, left)
	}
	clash, want := fewest(len(p.Claims), func(set int) bool { return !possible(set) }), api.OK
	if possible(every) {
		clash, want = 0, api.ErrNone
	}
	if s, e := law.Clash(p); s != clash || e != want {
		t.Error("Clash", p, s, e, clash)
	}
}

// checkPlaces looks at Place, Before and Near. By P5.9 each integer of what is told is that of a truth.
func checkPlaces(t *testing.T, p api.Post, all []truth) {
	for a := post; a < len(p.Bathers); a++ {
		place, many := ends(all, func(x truth) int { return x.at(a) })
		if s, e := law.Place(p, a); s != place || s.Hi-s.Lo+1 != many || e != api.OK {
			t.Error("Place", p, a, s, e, place, many)
		}
		for b := post; b < len(p.Bathers); b++ {
			order := how(all, func(x truth) bool { return x.before(a, b) })
			if n, e := law.Before(p, a, b); n != order || e != api.OK {
				t.Error("Before", p, a, b, n, e, order)
			}
			near, many := ends(all, func(x truth) int { return x.near(a, b) })
			if s, e := law.Near(p, a, b); s != near || s.Hi-s.Lo+1 != many || e != api.OK {
				t.Error("Near", p, a, b, s, e, near, many)
			}
		}
	}
}

// checkByLaw looks at Breaks, Kept and Fewest.
func checkByLaw(t *testing.T, p api.Post, all []truth) {
	surely, perhaps := 0, 0
	for n := range p.Bathers {
		switch how(all, func(x truth) bool { return x.breakers(p)>>n&1 == 1 }) {
		case 2:
			surely |= 1 << n
			perhaps |= 1 << n
		case 1:
			perhaps |= 1 << n
		}
	}
	if a, b, e := law.Breaks(p); a != surely || b != perhaps || e != api.OK {
		t.Error("Breaks", p, a, b, e, surely, perhaps)
	}
	kept := how(all, func(x truth) bool { return x.breakers(p) == 0 })
	if n, e := law.Kept(p); n != kept || e != api.OK {
		t.Error("Kept", p, n, e, kept)
	}
	few, _ := ends(all, func(x truth) int { return bits.OnesCount(uint(x.breakers(p))) })
	if s, e := law.Fewest(p); s != few || e != api.OK {
		t.Error("Fewest", p, s, e, few)
	}
}

// P5.7 and P5.8 of posts as full as they may be, of which there are too many truths to look at.
func TestClaimsOfFullPosts(t *testing.T) {
	falses := map[int]int{}
	for seed := range uint64(300) {
		r := source(2000 + seed)
		p := claimed(r, full(r), api.PostClaims)
		if seed%2 == 0 {
			p = claimed(r, anywhere(api.PostBathers), api.PostClaims)
		}
		checkClaims(t, p, possibleByMoving(p))
		n, _, _ := law.False(p)
		falses[n]++
	}
	if falses[0] < 10 || falses[1] < 10 || falses[2] < 10 || falses[3] < 10 {
		t.Error("the posts do not test all cases", falses)
	}
}

// possibleFull is a full post with claims that are right in a truth, and that truth.
func possibleFull(r *rand.Rand, claims int) (api.Post, truth) {
	p := full(r)
	x := placing(r, p)
	return agreed(r, p, x, claims), x
}

// can returns whether there is a truth.
func can(p api.Post) bool { return possibleByMoving(p)(1<<len(p.Claims) - 1) }

// P5.1, P5.2 and P5.3 of full posts: if one is at a place, where can the other one be?
func TestPlacesOfFullPosts(t *testing.T) {
	for seed := range uint64(60) {
		r := source(3000 + seed)
		p, _ := possibleFull(r, r.IntN(api.PostClaims+1))
		a, b := from(r, post, api.PostBathers-1), from(r, post, api.PostBathers-1)
		if a == b {
			continue
		}
		all := pairsOf(p, a, b)
		for i, who := range []int{a, b} {
			place, _ := ends(all, func(x truth) int { return x[i] })
			if s, e := law.Place(p, who); s != place || e != api.OK {
				t.Error(seed, "Place", p, who, s, e, place)
			}
		}
		near, many := ends(all, func(x truth) int { return max(x[0]-x[1], x[1]-x[0]) })
		if s, e := law.Near(p, a, b); s != near || s.Hi-s.Lo+1 != many || e != api.OK {
			t.Error(seed, "Near", p, a, b, s, e, near, many)
		}
		order := how(all, func(x truth) bool { return x[0] < x[1] })
		if n, e := law.Before(p, a, b); n != order || e != api.OK {
			t.Error(seed, "Before", p, a, b, n, e, order)
		}
	}
}

// pairsOf are the places at which two can be together in a truth.
func pairsOf(p api.Post, a, b int) (list []truth) {
	spans := append([]api.Span{p.Post}, bathing(p)...)
	for n := spans[a+1].Lo; n <= spans[a+1].Hi; n++ {
		for m := spans[b+1].Lo; m <= spans[b+1].Hi; m++ {
			if can(pinned(pinned(p, a, n), b, m)) {
				list = append(list, truth{n, m})
			}
		}
	}
	return list
}

func bathing(p api.Post) (list []api.Span) {
	for _, x := range p.Bathers {
		list = append(list, x.Place)
	}
	return list
}

// P5.4, P5.5 and P5.6 of full posts: which bathers can break the by-law together?
func TestByLawOfFullPosts(t *testing.T) {
	for seed := range uint64(200) {
		r := source(4000 + seed)
		p, _ := possibleFull(r, r.IntN(api.PostClaims+1))
		surely, perhaps, least, most := 31, 0, 5, 0
		for set := range 32 {
			x := p
			for n, y := range p.Bathers {
				// A lady keeps it just if she is before the post, a gentleman just if he is not.
				x = with(x, api.PostClaim{A: n, B: post, Not: y.Lady == (set>>n&1 == 1)})
			}
			if can(x) {
				surely, perhaps = surely&set, perhaps|set
				least, most = min(least, bits.OnesCount(uint(set))), max(most, bits.OnesCount(uint(set)))
			}
		}
		if a, b, e := law.Breaks(p); a != surely || b != perhaps || e != api.OK {
			t.Error(seed, "Breaks", p, a, b, e, surely, perhaps)
		}
		if s, e := law.Fewest(p); s != span(least, most) || e != api.OK {
			t.Error(seed, "Fewest", p, s, e, least, most)
		}
		if n, e := law.Kept(p); (n == api.PostNever) != (least > 0) || (n == api.PostAlways) != (most == 0) || e != api.OK {
			t.Error(seed, "Kept", p, n, e, least, most)
		}
	}
}

// holds returns whether a number is in a span, covers whether all of another span is.
func holds(s api.Span, n int) bool { return s.Lo <= n && n <= s.Hi }

func covers(s, other api.Span) bool { return s.Lo <= other.Lo && other.Hi <= s.Hi }

// P5.9, P2 and P7: what is true is told.
func TestWhatIsTrueIsTold(t *testing.T) {
	for seed := range uint64(300) {
		r := source(5000 + seed)
		p, x := possibleFull(r, r.IntN(api.PostClaims+1))
		for a := post; a < len(p.Bathers); a++ {
			if s, e := law.Place(p, a); !holds(s, x.at(a)) || e != api.OK {
				t.Error(seed, "Place", p, x, a, s, e)
			}
			b := from(r, post, len(p.Bathers)-1)
			if n, e := law.Before(p, a, b); n == api.PostAlways && !x.before(a, b) || n == api.PostNever && x.before(a, b) || e != api.OK {
				t.Error(seed, "Before", p, x, a, b, n, e)
			}
			if s, e := law.Near(p, a, b); !holds(s, x.near(a, b)) || e != api.OK {
				t.Error(seed, "Near", p, x, a, b, s, e)
			}
		}
		set := x.breakers(p)
		if surely, perhaps, e := law.Breaks(p); surely&^set != 0 || set&^perhaps != 0 || e != api.OK {
			t.Error(seed, "Breaks", p, x, surely, perhaps, e)
		}
		if n, e := law.Kept(p); n == api.PostAlways && set != 0 || n == api.PostNever && set == 0 || e != api.OK {
			t.Error(seed, "Kept", p, x, n, e)
		}
		if s, e := law.Fewest(p); !holds(s, bits.OnesCount(uint(set))) || e != api.OK {
			t.Error(seed, "Fewest", p, x, s, e)
		}
		if n, s, e := law.False(p); n != 0 || s != 0 || e != api.OK {
			t.Error(seed, "False", p, x, n, s, e)
		}
	}
}

// P5.9: in a cycle of claims that somebody was before somebody not all can be right.
func TestCycles(t *testing.T) {
	for seed := range uint64(100) {
		r := source(6000 + seed)
		long := from(r, 1, api.PostBathers+1)
		who := r.Perm(api.PostBathers + 1)[:long]
		p := full(r)
		for i := range who {
			p.Claims = append(p.Claims, before(who[i]-1, who[(i+1)%long]-1))
		}
		r.Shuffle(long, func(i, j int) { p.Claims[i], p.Claims[j] = p.Claims[j], p.Claims[i] })
		if s, e := law.Clash(p); bits.OnesCount(uint(s)) > long || s == 0 || e != api.OK {
			t.Error(seed, "Clash", p, s, e)
		}
		if n, s, e := law.False(p); n < 1 || s == 0 || e != api.OK {
			t.Error(seed, "False", p, n, s, e)
		}
		if n, e := law.Kept(p); n != 0 || e != api.ErrClash {
			t.Error(seed, "Kept", p, n, e)
		}
	}
}

// P5.10 and P2: with a claim more nothing is told less exactly, no fewer must be false, and at most one more.
func TestOneClaimMore(t *testing.T) {
	clashes := 0
	for seed := range uint64(300) {
		r := source(7000 + seed)
		p, _ := possibleFull(r, r.IntN(api.PostClaims))
		if seed%3 == 0 {
			p = claimed(r, full(r), r.IntN(api.PostClaims))
		}
		more := claimed(r, p, 1)
		n, _, _ := law.False(p)
		m, _, e := law.False(more)
		if m < n || m > n+1 || e != api.OK {
			t.Error(seed, "False", p, more, n, m, e)
		}
		if m != 0 {
			clashes++
			continue
		}
		noLess(t, p, more)
	}
	if clashes < 50 || clashes > 250 {
		t.Error("the posts test one case only", clashes)
	}
}

// noLess fails if with more claims something is told less exactly.
func noLess(t *testing.T, p, more api.Post) {
	for a := post; a < len(p.Bathers); a++ {
		place, _ := law.Place(p, a)
		if s, e := law.Place(more, a); !covers(place, s) || e != api.OK {
			t.Error("Place", p, more, a, place, s, e)
		}
		for b := post; b < a; b++ {
			order, _ := law.Before(p, a, b)
			if n, e := law.Before(more, a, b); order != api.PostPerhaps && n != order || e != api.OK {
				t.Error("Before", p, more, a, b, order, n, e)
			}
			near, _ := law.Near(p, a, b)
			if s, e := law.Near(more, a, b); !covers(near, s) || e != api.OK {
				t.Error("Near", p, more, a, b, near, s, e)
			}
		}
	}
	surely, perhaps, _ := law.Breaks(p)
	if a, b, e := law.Breaks(more); surely&^a != 0 || b&^perhaps != 0 || e != api.OK {
		t.Error("Breaks", p, more, surely, perhaps, a, b, e)
	}
	kept, _ := law.Kept(p)
	if n, e := law.Kept(more); kept != api.PostPerhaps && n != kept || e != api.OK {
		t.Error("Kept", p, more, kept, n, e)
	}
	few, _ := law.Fewest(p)
	if s, e := law.Fewest(more); !covers(few, s) || e != api.OK {
		t.Error("Fewest", p, more, few, s, e)
	}
}

// change is a post and another one, of which the same is told but for numbers: the new number of each bather, and how much further on all is.
type change struct {
	old, new api.Post
	number   []int
	further  int
}

// who is the new number of somebody.
func (c change) who(old int) int {
	if old == post {
		return post
	}
	return c.number[old]
}

// set is a set of bathers by their new numbers.
func (c change) set(old int) (set int) {
	for a, b := range c.number {
		set |= old >> a & 1 << b
	}
	return set
}

// check fails unless the same is told.
func (c change) check(t *testing.T) {
	for a := post; a < len(c.old.Bathers); a++ {
		s, e := law.Place(c.old, a)
		if e == api.OK {
			s = span(s.Lo+c.further, s.Hi+c.further)
		}
		if other, f := law.Place(c.new, c.who(a)); other != s || f != e {
			t.Error("Place", c, a, s, e, other, f)
		}
		for b := post; b < len(c.old.Bathers); b++ {
			n, e := law.Before(c.old, a, b)
			if other, f := law.Before(c.new, c.who(a), c.who(b)); other != n || f != e {
				t.Error("Before", c, a, b, n, e, other, f)
			}
			s, e := law.Near(c.old, a, b)
			if other, f := law.Near(c.new, c.who(a), c.who(b)); other != s || f != e {
				t.Error("Near", c, a, b, s, e, other, f)
			}
		}
	}
	surely, perhaps, e := law.Breaks(c.old)
	if a, b, f := law.Breaks(c.new); a != c.set(surely) || b != c.set(perhaps) || f != e {
		t.Error("Breaks", c, surely, perhaps, e, a, b, f)
	}
	kept, e := law.Kept(c.old)
	if n, f := law.Kept(c.new); n != kept || f != e {
		t.Error("Kept", c, kept, e, n, f)
	}
	few, e := law.Fewest(c.old)
	if s, f := law.Fewest(c.new); s != few || f != e {
		t.Error("Fewest", c, few, e, s, f)
	}
}

// sameClaims fails unless False and Clash tell the same.
func (c change) sameClaims(t *testing.T) {
	n, s, e := law.False(c.old)
	if m, u, f := law.False(c.new); n != m || s != u || e != f {
		t.Error("False", c, n, s, e, m, u, f)
	}
	s, e = law.Clash(c.old)
	if u, f := law.Clash(c.new); s != u || e != f {
		t.Error("Clash", c, s, e, u, f)
	}
}

// anyPost is a random post, with claims that are right in a truth, and now and then one more.
func anyPost(r *rand.Rand) api.Post {
	p := full(r)
	if r.IntN(2) == 0 {
		p = some(r, r.IntN(api.PostBathers+1), 6)
	}
	return claimed(r, agreed(r, p, placing(r, p), r.IntN(api.PostClaims)), r.IntN(2))
}

// unmoved is the numbers of bathers as they are.
func unmoved(p api.Post) (list []int) {
	for n := range p.Bathers {
		list = append(list, n)
	}
	return list
}

// P5.10 and P11: the order of claims makes no difference but to their numbers.
func TestOrderOfClaims(t *testing.T) {
	for seed := range uint64(100) {
		r := source(8000 + seed)
		p := anyPost(r)
		number := r.Perm(len(p.Claims))
		other := p
		other.Claims = make([]api.PostClaim, len(p.Claims))
		for old, c := range p.Claims {
			other.Claims[number[old]] = c
		}
		change{p, other, unmoved(p), 0}.check(t)
		n, _, e := law.False(p)
		if m, _, f := law.False(other); n != m || e != f {
			t.Error(seed, "False", p, other, n, e, m, f)
		}
		a, e := law.Clash(p)
		if b, f := law.Clash(other); bits.OnesCount(uint(a)) != bits.OnesCount(uint(b)) || e != f {
			t.Error(seed, "Clash", p, other, a, e, b, f)
		}
	}
}

// P5.10 and P11: if bathers are numbered otherwise only their numbers change.
func TestBathersNumberedOtherwise(t *testing.T) {
	for seed := range uint64(100) {
		r := source(9000 + seed)
		p := anyPost(r)
		c := change{old: p, new: p, number: r.Perm(len(p.Bathers))}
		c.new.Bathers, c.new.Claims = make([]api.PostBather, len(p.Bathers)), slices.Clone(p.Claims)
		for old, x := range p.Bathers {
			c.new.Bathers[c.who(old)] = x
		}
		for i, x := range p.Claims {
			c.new.Claims[i].A, c.new.Claims[i].B = c.who(x.A), c.who(x.B)
		}
		c.check(t)
		c.sameClaims(t)
	}
}

// P5.10: if all is so many places further on places are, too.
func TestAllIsFurtherOn(t *testing.T) {
	for seed := range uint64(100) {
		r := source(10000 + seed)
		p := some(r, r.IntN(api.PostBathers+1), 6)
		p = claimed(r, agreed(r, p, placing(r, p), r.IntN(api.PostClaims)), r.IntN(2))
		first, last := p.Post.Lo, p.Post.Hi
		for _, s := range bathing(p) {
			first, last = min(first, s.Lo), max(last, s.Hi)
		}
		c := change{p, p, unmoved(p), from(r, -first, api.PostPlaces-last)}
		if seed%3 == 0 {
			c.further = api.PostPlaces - last
		}
		c.new.Post = span(p.Post.Lo+c.further, p.Post.Hi+c.further)
		c.new.Bathers = slices.Clone(p.Bathers)
		for i, s := range bathing(p) {
			c.new.Bathers[i].Place = span(s.Lo+c.further, s.Hi+c.further)
		}
		c.check(t)
		c.sameClaims(t)
	}
}

// P1 and P11: the same call tells the same, whatever is called at the same time.
func TestSameCallSameResult(t *testing.T) {
	done := make(chan [4]int)
	for range 8 {
		go func() {
			s, _ := law.Place(postP(), 1)
			n, set, _ := law.False(postQ())
			clash, _ := law.Clash(postQ())
			done <- [4]int{s.Hi, n, set, clash}
		}()
	}
	for range 8 {
		if x := <-done; x != [4]int{11, 1, 1, 9} {
			t.Error(x)
		}
	}
}
