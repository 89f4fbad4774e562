package post_test

import (
	"math"
	"slices"
	"testing"

	"dipworks/api"
	law "dipworks/post"
)

// post is the number by which the post is somebody.
const post = -1

func span(lo, hi int) api.Span { return api.Span{Lo: lo, Hi: hi} }

func lady(lo, hi int) api.PostBather { return api.PostBather{Lady: true, Place: span(lo, hi)} }

func gentleman(lo, hi int) api.PostBather { return api.PostBather{Place: span(lo, hi)} }

func before(a, b int) api.PostClaim { return api.PostClaim{A: a, B: b} }

func not(a, b int) api.PostClaim { return api.PostClaim{A: a, B: b, Not: true} }

// beach is a post without claims.
func beach(at api.Span, l ...api.PostBather) api.Post { return api.Post{Post: at, Bathers: l} }

// with is a post with claims more.
func with(p api.Post, l ...api.PostClaim) api.Post {
	p.Claims = append(slices.Clone(p.Claims), l...)
	return p
}

// anywhere is a post and so many gentlemen, all of whom can be anywhere, and claims.
func anywhere(many int, l ...api.PostClaim) api.Post {
	return with(beach(span(0, 40), slices.Repeat([]api.PostBather{gentleman(0, 40)}, many)...), l...)
}

// postP and postQ are those of the examples.
func postP() api.Post {
	return with(beach(span(10, 12), lady(5, 11), gentleman(9, 14), lady(8, 13)), before(1, 2), not(post, 2), before(0, post))
}

func postQ() api.Post { return with(postP(), before(2, 1)) }

func TestExamples(t *testing.T) {
	p, q := postP(), postQ()
	for who, want := range map[int]api.Span{0: span(5, 11), 1: span(9, 11), 2: span(10, 12), post: span(10, 12)} {
		if s, e := law.Place(p, who); s != want || e != api.OK {
			t.Error("Place", who, s, e)
		}
	}
	for _, x := range [][3]int{{1, post, 2}, {2, post, 1}, {post, 0, 0}} {
		if n, e := law.Before(p, x[0], x[1]); n != x[2] || e != api.OK {
			t.Error("Before", x, n, e)
		}
	}
	for _, x := range [][4]int{{1, 2, 1, 3}, {0, post, 1, 7}} {
		if s, e := law.Near(p, x[0], x[1]); s != span(x[2], x[3]) || e != api.OK {
			t.Error("Near", x, s, e)
		}
	}
	if a, b, e := law.Breaks(p); a != 2 || b != 6 || e != api.OK {
		t.Error("Breaks", a, b, e)
	}
	if n, e := law.Kept(p); n != 0 || e != api.OK {
		t.Error("Kept", n, e)
	}
	if s, e := law.Fewest(p); s != span(1, 2) || e != api.OK {
		t.Error("Fewest", s, e)
	}
	if n, s, e := law.False(q); n != 1 || s != 1 || e != api.OK {
		t.Error("False", n, s, e)
	}
	if n, s, e := law.False(p); n != 0 || s != 0 || e != api.OK {
		t.Error("False", n, s, e)
	}
	if s, e := law.Clash(q); s != 9 || e != api.OK {
		t.Error("Clash", s, e)
	}
	if s, e := law.Clash(p); s != 0 || e != api.ErrNone {
		t.Error("Clash", s, e)
	}
	if n, e := law.Kept(q); n != 0 || e != api.ErrClash {
		t.Error("Kept", n, e)
	}
}

// P5.1: spans, and what claims leave of them, also by way of others.
func TestPlace(t *testing.T) {
	chain := anywhere(5, before(0, 1), before(1, 2), before(2, 3), before(3, 4), before(4, post))
	narrow := beach(span(3, 6), lady(2, 8), gentleman(5, 5))
	for i, x := range []struct {
		p    api.Post
		who  int
		want api.Span
	}{
		{beach(span(0, 0)), post, span(0, 0)}, {beach(span(40, 40)), post, span(40, 40)}, {beach(span(0, 40)), post, span(0, 40)},
		{beach(span(7, 9), lady(40, 40), gentleman(3, 5)), 0, span(40, 40)}, {beach(span(7, 9), lady(40, 40), gentleman(3, 5)), 1, span(3, 5)},
		{chain, 0, span(0, 35)}, {chain, 1, span(1, 36)}, {chain, 2, span(2, 37)}, {chain, 3, span(3, 38)}, {chain, 4, span(4, 39)}, {chain, post, span(5, 40)},
		// Less is less, and not less is also just as much.
		{with(narrow, before(post, 1)), post, span(3, 4)}, {with(narrow, not(post, 1)), post, span(5, 6)}, {with(narrow, before(1, post)), post, span(6, 6)}, {with(narrow, not(1, post)), post, span(3, 5)},
		{with(narrow, before(0, post)), 0, span(2, 5)}, {with(narrow, before(post, 0)), 0, span(4, 8)}, {with(narrow, not(0, post)), 0, span(3, 8)}, {with(narrow, not(post, 0)), 0, span(2, 6)},
		{with(narrow, before(0, post)), 1, span(5, 5)}, {with(narrow, before(0, post)), post, span(3, 6)},
		// By way of the post, which no claim names alone.
		{with(narrow, before(1, post), before(post, 0)), 0, span(7, 8)}, {with(narrow, not(1, post), not(post, 0)), 0, span(2, 5)}, {with(narrow, not(post, 1), not(0, post)), 0, span(5, 8)},
		// A claim of one alone, and claims of others, change nothing.
		{with(narrow, not(0, 0), not(post, post)), 0, span(2, 8)}, {with(narrow, before(post, 1)), 0, span(2, 8)},
		// All are at the same place.
		{with(narrow, not(0, 1), not(1, 0), not(1, post), not(post, 0)), post, span(5, 5)},
		// The claims are written in another order than that in which one leads to the other.
		{anywhere(4, before(2, 3), before(0, 1), before(1, 2)), 3, span(3, 40)}, {anywhere(4, before(2, 3), before(1, 2), before(0, 1)), 0, span(0, 37)}, {anywhere(4, before(1, 2), before(2, 3), before(0, 1)), 3, span(3, 40)},
		{anywhere(5, before(4, 3), before(3, 2), before(2, 1), before(1, 0)), 0, span(4, 40)}, {anywhere(5, before(4, 3), before(3, 2), before(2, 1), before(1, 0)), 4, span(0, 36)},
	} {
		if s, e := law.Place(x.p, x.who); s != x.want || e != api.OK {
			t.Error(i, s, e)
		}
	}
}

// P5.2 and P5.3: by spans and by claims, and to the place.
func TestBeforeAndNear(t *testing.T) {
	two := func(a, b, c, d int) api.Post { return beach(span(20, 20), lady(a, b), gentleman(c, d)) }
	for i, x := range []struct {
		p     api.Post
		order int // of 0 and 1
		turn  int // of 1 and 0
		near  api.Span
	}{
		{two(3, 5, 6, 9), api.PostAlways, api.PostNever, span(1, 6)},
		{two(3, 6, 6, 9), api.PostPerhaps, api.PostNever, span(0, 6)},
		{two(6, 9, 3, 5), api.PostNever, api.PostAlways, span(1, 6)},
		{two(6, 9, 3, 6), api.PostNever, api.PostPerhaps, span(0, 6)},
		{two(3, 7, 6, 9), api.PostPerhaps, api.PostPerhaps, span(0, 6)},
		{two(3, 9, 5, 6), api.PostPerhaps, api.PostPerhaps, span(0, 4)},
		{two(4, 8, 4, 8), api.PostPerhaps, api.PostPerhaps, span(0, 4)},
		{two(0, 40, 0, 40), api.PostPerhaps, api.PostPerhaps, span(0, 40)},
		{two(0, 0, 40, 40), api.PostAlways, api.PostNever, span(40, 40)}, {two(40, 40, 0, 0), api.PostNever, api.PostAlways, span(40, 40)}, {two(7, 7, 7, 7), api.PostNever, api.PostNever, span(0, 0)},
		{with(two(0, 40, 0, 40), before(0, 1)), api.PostAlways, api.PostNever, span(1, 40)},
		{with(two(0, 40, 0, 40), not(0, 1)), api.PostNever, api.PostPerhaps, span(0, 40)},
		{with(two(0, 40, 0, 40), not(1, 0)), api.PostPerhaps, api.PostNever, span(0, 40)},
		{with(two(0, 40, 0, 40), not(0, 1), not(1, 0)), api.PostNever, api.PostNever, span(0, 0)},
		// By way of the post.
		{with(two(0, 40, 0, 40), before(0, post), not(1, post)), api.PostAlways, api.PostNever, span(1, 40)},
		{with(two(0, 40, 0, 40), before(0, post), before(post, 1)), api.PostAlways, api.PostNever, span(2, 40)},
		{with(two(0, 40, 0, 40), not(0, post), not(post, 1)), api.PostNever, api.PostPerhaps, span(0, 40)},
		{with(two(0, 40, 0, 40), before(0, post), before(1, post)), api.PostPerhaps, api.PostPerhaps, span(0, 19)},
		// What is claimed of the post narrows where 0 can be, and so how near the other one is.
		{with(two(15, 25, 24, 30), not(post, 0)), api.PostAlways, api.PostNever, span(4, 15)},
		// That one is surely before the other one does not say where.
		{with(two(10, 14, 10, 12), before(0, 1)), api.PostAlways, api.PostNever, span(1, 2)},
		{with(two(10, 12, 10, 14), before(0, 1)), api.PostAlways, api.PostNever, span(1, 4)},
	} {
		for n, want := range map[[2]int]int{{0, 1}: x.order, {1, 0}: x.turn, {0, 0}: api.PostNever, {1, 1}: api.PostNever, {post, post}: api.PostNever} {
			if o, e := law.Before(x.p, n[0], n[1]); o != want || e != api.OK {
				t.Error(i, "Before", n, o, e)
			}
		}
		for n, want := range map[[2]int]api.Span{{0, 1}: x.near, {1, 0}: x.near, {0, 0}: span(0, 0), {1, 1}: span(0, 0), {post, post}: span(0, 0)} {
			if s, e := law.Near(x.p, n[0], n[1]); s != want || e != api.OK {
				t.Error(i, "Near", n, s, e)
			}
		}
	}
	if api.PostNever != 0 || api.PostPerhaps != 1 || api.PostAlways != 2 {
		t.Error("the chapter's numbers")
	}
}

// P5.4, P5.5 and P5.6: ladies are before the post, gentlemen are not; to the place.
func TestByLaw(t *testing.T) {
	for i, x := range []struct {
		p               api.Post
		surely, perhaps int
		kept            int
		few             api.Span
	}{
		{beach(span(0, 40)), 0, 0, api.PostAlways, span(0, 0)},
		{beach(span(20, 20), lady(19, 19)), 0, 0, api.PostAlways, span(0, 0)}, {beach(span(20, 20), lady(20, 20)), 1, 1, api.PostNever, span(1, 1)}, {beach(span(20, 20), lady(21, 21)), 1, 1, api.PostNever, span(1, 1)},
		{beach(span(20, 20), gentleman(19, 19)), 1, 1, api.PostNever, span(1, 1)}, {beach(span(20, 20), gentleman(20, 20)), 0, 0, api.PostAlways, span(0, 0)}, {beach(span(20, 20), gentleman(21, 21)), 0, 0, api.PostAlways, span(0, 0)},
		{beach(span(20, 20), lady(19, 20)), 0, 1, api.PostPerhaps, span(0, 1)}, {beach(span(20, 20), gentleman(19, 20)), 0, 1, api.PostPerhaps, span(0, 1)},
		{beach(span(20, 22), lady(19, 20)), 0, 1, api.PostPerhaps, span(0, 1)}, {beach(span(20, 22), lady(22, 24)), 1, 1, api.PostNever, span(1, 1)}, {beach(span(20, 22), gentleman(19, 19)), 1, 1, api.PostNever, span(1, 1)}, {beach(span(20, 22), gentleman(22, 22)), 0, 0, api.PostAlways, span(0, 0)},
		// Each can be right, but not both: wherever the post is.
		{beach(span(20, 22), lady(21, 21), gentleman(20, 20)), 0, 3, api.PostNever, span(1, 2)},
		{beach(span(20, 22), lady(21, 21), gentleman(21, 21)), 0, 3, api.PostNever, span(1, 1)},
		{beach(span(20, 22), lady(21, 21), gentleman(22, 22)), 0, 1, api.PostPerhaps, span(0, 1)},
		{beach(span(20, 22), gentleman(21, 21), lady(20, 20)), 0, 3, api.PostPerhaps, span(0, 1)},
		// Two ladies at the same place are right, or wrong, together.
		{with(beach(span(20, 20), lady(0, 40), lady(0, 40)), not(0, 1), not(1, 0)), 0, 3, api.PostPerhaps, span(0, 2)},
		{with(beach(span(20, 20), lady(0, 40), gentleman(0, 40)), not(0, 1), not(1, 0)), 0, 3, api.PostNever, span(1, 1)},
		{with(beach(span(20, 20), lady(0, 40), gentleman(0, 40)), before(0, 1)), 0, 3, api.PostPerhaps, span(0, 1)},
		{with(beach(span(20, 20), lady(0, 40), gentleman(0, 40)), before(1, 0)), 0, 3, api.PostNever, span(1, 2)},
		// Claims of the post decide.
		{with(beach(span(0, 40), lady(0, 40), gentleman(0, 40)), before(0, post), not(1, post)), 0, 0, api.PostAlways, span(0, 0)},
		{with(beach(span(0, 40), lady(0, 40), gentleman(0, 40)), not(0, post), before(1, post)), 3, 3, api.PostNever, span(2, 2)},
		{with(beach(span(0, 40), lady(0, 40), gentleman(0, 40)), not(0, post)), 1, 3, api.PostNever, span(1, 2)},
		{with(beach(span(0, 40), lady(0, 40), gentleman(0, 40)), before(0, post)), 0, 2, api.PostPerhaps, span(0, 1)},
		// Not before the post can also be at the same place, which is wrong for a lady, and right for a gentleman.
		{with(beach(span(0, 40), lady(0, 40), gentleman(0, 40)), not(0, post), not(post, 0), not(1, post), not(post, 1)), 1, 1, api.PostNever, span(1, 1)},
		// As many as there may be.
		{beach(span(20, 20), lady(20, 40), gentleman(0, 19), lady(0, 40), gentleman(0, 40), lady(0, 19)), 3, 15, api.PostNever, span(2, 4)},
		{beach(span(20, 20), lady(20, 40), lady(20, 40), lady(20, 40), lady(20, 40), lady(20, 40)), 31, 31, api.PostNever, span(5, 5)},
		{beach(span(0, 40), lady(0, 40), gentleman(0, 40), lady(0, 40), gentleman(0, 40), lady(0, 40)), 0, 31, api.PostPerhaps, span(0, 5)},
		{beach(span(0, 0), lady(0, 40), gentleman(0, 40), lady(0, 40), gentleman(0, 40), lady(0, 40)), 21, 21, api.PostNever, span(3, 3)},
	} {
		if a, b, e := law.Breaks(x.p); a != x.surely || b != x.perhaps || e != api.OK {
			t.Error(i, "Breaks", a, b, e)
		}
		if n, e := law.Kept(x.p); n != x.kept || e != api.OK {
			t.Error(i, "Kept", n, e)
		}
		if s, e := law.Fewest(x.p); s != x.few || e != api.OK {
			t.Error(i, "Fewest", s, e)
		}
	}
}

// P5.7 and P5.8: the fewest, and of these the least number.
func TestFalseAndClash(t *testing.T) {
	for i, x := range []struct {
		p          api.Post
		many, left int
		clash      int
	}{
		{anywhere(0), 0, 0, 0}, {anywhere(2, before(0, 1), not(1, 0)), 0, 0, 0}, {anywhere(1, not(0, 0), not(post, post)), 0, 0, 0},
		// A claim alone, by itself, or by the spans.
		{anywhere(1, before(0, 0)), 1, 1, 1}, {anywhere(0, before(post, post)), 1, 1, 1}, {anywhere(2, before(0, 1), before(1, 1)), 1, 2, 2},
		{with(beach(span(0, 5), lady(5, 9)), before(0, post)), 1, 1, 1}, {with(beach(span(0, 6), lady(5, 9)), before(0, post)), 0, 0, 0},
		{with(beach(span(0, 4), lady(5, 9)), not(post, 0)), 1, 1, 1}, {with(beach(span(0, 5), lady(5, 9)), not(post, 0)), 0, 0, 0},
		// Two, of which any one can be left out.
		{anywhere(2, before(0, 1), before(1, 0)), 1, 1, 3}, {anywhere(2, before(0, 1), not(0, 1)), 1, 1, 3}, {anywhere(2, not(0, 1), not(1, 0)), 0, 0, 0},
		{anywhere(2, before(0, 1), before(1, 0), before(1, 0)), 1, 1, 3}, {anywhere(2, before(1, 0), before(1, 0), before(0, 1)), 1, 4, 5},
		{anywhere(2, before(1, 0), not(1, 1), before(0, 1)), 1, 1, 5},
		// A cycle, and one of not before, which are no less.
		{anywhere(3, before(0, 1), before(1, 2), before(2, 0)), 1, 1, 7}, {anywhere(3, not(0, 1), not(1, 2), not(2, 0)), 0, 0, 0}, {anywhere(3, not(0, 1), not(1, 2), before(0, 2)), 1, 1, 7},
		{anywhere(5, before(0, 1), before(1, 2), before(2, 3), before(3, 4), before(4, post), before(post, 0)), 1, 1, 63},
		// The fewest come before the least number.
		{anywhere(3, before(0, 1), before(1, 2), before(2, 0), before(0, 0)), 2, 9, 8},
		{anywhere(3, before(1, 2), before(2, 0), before(1, 0), before(0, 1)), 1, 8, 12},
		{anywhere(3, before(0, 1), before(1, 2), before(2, 0), before(0, 2), before(2, 1)), 2, 6, 12},
		{anywhere(4, before(0, 1), before(1, 0), before(2, 3), before(3, 2)), 2, 5, 3},
		{anywhere(4, before(2, 3), before(1, 0), before(0, 1), before(3, 2)), 2, 3, 6},
		// Claims that go too far for the places there are.
		{with(beach(span(2, 4), lady(2, 4), lady(2, 4), lady(2, 4)), before(0, 1), before(1, 2), before(2, post)), 1, 1, 7},
		{with(beach(span(2, 5), lady(2, 5), lady(2, 5), lady(2, 5)), before(0, 1), before(1, 2), before(2, post)), 0, 0, 0},
		{with(beach(span(2, 3), lady(2, 3), lady(2, 3), lady(2, 3)), before(0, 1), before(1, 2), before(2, post)), 1, 2, 3},
		// As many as there may be.
		{anywhere(1, slices.Repeat([]api.PostClaim{before(0, 0)}, 8)...), 8, 255, 1},
		{anywhere(2, before(0, 1), before(0, 1), before(0, 1), before(0, 1), before(1, 0), before(1, 0), before(1, 0), before(1, 0)), 4, 15, 17},
		{anywhere(2, before(0, 1), before(0, 1), before(0, 1), before(0, 1), before(0, 1), before(1, 0), before(1, 0), before(1, 0)), 3, 224, 33},
		{anywhere(1, not(0, 0), not(0, 0), not(0, 0), not(0, 0), not(0, 0), not(0, 0), not(0, 0), before(0, 0)), 1, 128, 128},
	} {
		if n, s, e := law.False(x.p); n != x.many || s != x.left || e != api.OK {
			t.Error(i, "False", n, s, e)
		}
		want := api.OK
		if x.clash == 0 {
			want = api.ErrNone
		}
		if s, e := law.Clash(x.p); s != x.clash || e != want {
			t.Error(i, "Clash", s, e)
		}
	}
}

// argument is what a function takes besides a post.
type argument int

const (
	nothing argument = iota
	somebody
	two
)

// call is a call of one of the functions: its error, and all other results.
type call struct {
	name string
	uses argument
	do   func(p api.Post, a, b int) (api.Errno, [2]int)
}

// zero is what a call returns besides an error.
var zero [2]int

func calls() []call {
	ends := func(s api.Span, e api.Errno) (api.Errno, [2]int) { return e, [2]int{s.Lo, s.Hi} }
	number := func(n int, e api.Errno) (api.Errno, [2]int) { return e, [2]int{n} }
	both := func(n, m int, e api.Errno) (api.Errno, [2]int) { return e, [2]int{n, m} }
	return []call{
		{"Place", somebody, func(p api.Post, a, _ int) (api.Errno, [2]int) { return ends(law.Place(p, a)) }},
		{"Before", two, func(p api.Post, a, b int) (api.Errno, [2]int) { return number(law.Before(p, a, b)) }},
		{"Near", two, func(p api.Post, a, b int) (api.Errno, [2]int) { return ends(law.Near(p, a, b)) }},
		{"Breaks", nothing, func(p api.Post, _, _ int) (api.Errno, [2]int) { return both(law.Breaks(p)) }},
		{"Kept", nothing, func(p api.Post, _, _ int) (api.Errno, [2]int) { return number(law.Kept(p)) }},
		{"Fewest", nothing, func(p api.Post, _, _ int) (api.Errno, [2]int) { return ends(law.Fewest(p)) }},
		{"False", nothing, func(p api.Post, _, _ int) (api.Errno, [2]int) { return both(law.False(p)) }},
		{"Clash", nothing, func(p api.Post, _, _ int) (api.Errno, [2]int) { return number(law.Clash(p)) }},
	}
}

// ofClaims returns whether a call is one of those that there is no ErrClash of.
func (c call) ofClaims() bool { return c.name == "False" || c.name == "Clash" }

// named is a post with a name.
type named struct {
	name string
	p    api.Post
}

// invalid are posts that are not valid, each for one reason.
func invalid() (list []named) {
	const low, high = math.MinInt, math.MaxInt
	add := func(name string, change func(p *api.Post)) {
		p := postP()
		change(&p)
		list = append(list, named{name, p})
	}
	for _, s := range []api.Span{span(1, 0), span(40, 39), span(-1, 0), span(-1, -1), span(-2, 5), span(0, 41), span(40, 41), span(41, 41), span(0, -1), span(41, 40), span(low, 0), span(low, low), span(0, high), span(high, high), span(low, high), span(high, low), span(high, 0), span(2, low)} {
		add("post", func(p *api.Post) { p.Post = s })
		for _, n := range []int{0, 2} {
			add("place", func(p *api.Post) { p.Bathers[n].Place = s })
		}
		add("post alone", func(p *api.Post) { *p = beach(s) })
	}
	for _, who := range []int{low, -2, 3, 4, 5, high} {
		for _, n := range []int{0, 2} {
			add("A", func(p *api.Post) { p.Claims[n].A = who })
			add("B", func(p *api.Post) { p.Claims[n].B = who })
			add("A of a Not", func(p *api.Post) { p.Claims[n] = not(who, 0) })
			add("B of a Not", func(p *api.Post) { p.Claims[n] = not(0, who) })
		}
	}
	add("a claim of nobody", func(p *api.Post) { *p = with(beach(span(0, 0)), before(0, post)) })
	add("six bathers", func(p *api.Post) { *p = anywhere(6) })
	add("six bathers, all at 0", func(p *api.Post) { p.Bathers = make([]api.PostBather, 6) })
	add("nine claims", func(p *api.Post) { p.Claims = slices.Repeat([]api.PostClaim{not(0, 0)}, 9) })
	add("nine claims that clash", func(p *api.Post) { p.Claims = slices.Repeat([]api.PostClaim{before(0, 0)}, 9) })
	return list
}

// limits are posts that go as far as they may.
func limits() []named {
	return []named{
		{"nothing", api.Post{}}, {"empty", api.Post{Bathers: []api.PostBather{}, Claims: []api.PostClaim{}}}, {"the last place", beach(span(40, 40), lady(40, 40), gentleman(40, 40))},
		{"all places", anywhere(5)}, {"eight claims", anywhere(5, slices.Repeat([]api.PostClaim{not(4, post)}, 8)...)}, {"claims of the post alone", with(beach(span(0, 0)), not(post, post))},
	}
}

// ErrArg comes first, whatever else is wrong, and with it there is no other result.
func TestInvalidPosts(t *testing.T) {
	for i, x := range invalid() {
		for _, f := range calls() {
			for _, n := range []int{math.MinInt, -2, post, 0, 1, 9, math.MaxInt} {
				if e, other := f.do(x.p, n, n); e != api.ErrArg || other != zero {
					t.Error(i, x.name, f.name, n, e, other)
				}
			}
		}
	}
}

func TestLimitsAreValid(t *testing.T) {
	for _, x := range limits() {
		for _, f := range calls() {
			want := api.OK
			if f.name == "Clash" {
				want = api.ErrNone
			}
			for _, who := range []int{post, len(x.p.Bathers) - 1} {
				if e, _ := f.do(x.p, who, who); e != want {
					t.Error(x.name, f.name, who, e)
				}
			}
		}
	}
}

// ErrRange comes just beyond the bounds of each argument, also if there is no truth; within them there is ErrClash then, but not of claims.
func TestRangesAndClashes(t *testing.T) {
	const low, high = math.MinInt, math.MaxInt
	for _, f := range calls() {
		for _, x := range [][2]int{{post, post}, {0, post}, {post, 2}, {2, 0}} {
			if e, _ := f.do(postP(), x[0], x[1]); e != api.OK && (f.name != "Clash" || e != api.ErrNone) {
				t.Error(f.name, x, e)
			}
			if e, other := f.do(postQ(), x[0], x[1]); !f.ofClaims() && (e != api.ErrClash || other != zero) || f.ofClaims() && e != api.OK {
				t.Error(f.name, x, "clash", e, other)
			}
		}
		for _, who := range []int{low, -3, -2, 3, 4, 5, high} {
			for _, p := range []api.Post{postP(), postQ()} {
				if e, other := f.do(p, who, 0); f.uses != nothing && (e != api.ErrRange || other != zero) {
					t.Error(f.name, who, "A", e, other)
				}
				if e, other := f.do(p, 0, who); f.uses == two && (e != api.ErrRange || other != zero) {
					t.Error(f.name, who, "B", e, other)
				}
			}
		}
		if e, _ := f.do(beach(span(0, 0)), 0, 0); f.uses != nothing && e != api.ErrRange {
			t.Error(f.name, "no bathers", e)
		}
	}
}

// R4: no argument is changed, nor what lies behind it in memory.
func TestMemory(t *testing.T) {
	for _, p := range []api.Post{postP(), postQ(), anywhere(3, before(0, 1), before(1, 2), before(2, 0), before(0, 0))} {
		bathers, claims := append(slices.Clone(p.Bathers), lady(1, 2)), append(slices.Clone(p.Claims), not(1, 0), before(0, 2))
		sameBathers, sameClaims := slices.Clone(bathers), slices.Clone(claims)
		p.Bathers, p.Claims = bathers[:len(p.Bathers)], claims[:len(p.Claims)]
		for _, f := range calls() {
			for n := range p.Bathers {
				f.do(p, n, post)
				if !slices.Equal(bathers, sameBathers) || !slices.Equal(claims, sameClaims) {
					t.Fatal(f.name, bathers, claims)
				}
			}
		}
	}
}

// Nothing is kept from call to call: after a call with an error, or of another post, all is as it was.
func TestCallsKnowNothingOfOneAnother(t *testing.T) {
	for range 2 {
		TestExamples(t)
		for _, f := range calls() {
			f.do(anywhere(6), -1, -1)
			f.do(postQ(), 0, 1)
			f.do(anywhere(5), 9, 9)
			f.do(anywhere(5, before(4, 0)), 4, 0)
		}
	}
}
