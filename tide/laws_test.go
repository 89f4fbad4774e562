package tide_test

import (
	"math/bits"
	"math/rand/v2"
	"slices"
	"testing"

	"dipworks/api"
	"dipworks/tide"
)

// covers returns whether the span s contains all that the span of contains.
func covers(s, of api.Span) bool { return s.Lo <= of.Lo && of.Hi <= s.Hi }

func holds(s api.Span, n int) bool { return covers(s, span(n, n)) }

// P1.8, P2 and P3: what is true is within what is told, if looks are right.
func TestWhatIsTrueIsTold(t *testing.T) {
	for seed := range uint64(80) {
		r := source(1000 + seed)
		x, y := looked(r, api.TideLooks)
		first, last := minutes(x)
		for m := first; m <= last; m += from(r, 1, 4) {
			if s, e := tide.Height(x, m); e != api.OK || !holds(s, level(x, y, m)) {
				t.Error(seed, "Height", m, s, e)
			}
			least, most := r.IntN(4), r.IntN(9)
			surely, perhaps, _ := tide.Places(x, m, least, most)
			for place := range x.Sand {
				n := deep(x, y, place, m)
				if s, e := tide.Depth(x, place, m); e != api.OK || !holds(s, n) {
					t.Error(seed, "Depth", place, m, s, e)
				}
				fits := least <= n && n <= most
				if surely>>place&1 == 1 && !fits || fits && perhaps>>place&1 == 0 {
					t.Error(seed, "Places", place, m, surely, perhaps, n)
				}
			}
		}
		for place := range x.Sand {
			if s, e := tide.Sand(x, place); e != api.OK || !holds(s, y.sand[place]) {
				t.Error(seed, "Sand", place, s, e)
			}
			trueFirst(t, r, x, y, place)
		}
	}
}

// trueFirst looks at Served and First of a true height of the water.
func trueFirst(t *testing.T, r *rand.Rand, x api.Tide, y truth, place int) {
	first, last := minutes(x)
	least, most := r.IntN(6), r.IntN(12)
	l, _ := tide.Served(x, place, least, most)
	for _, m := range minutesOf(l) {
		if n := deep(x, y, place, m); n < least || n > most {
			t.Error("Served", x, place, m, n)
		}
	}
	truly := first
	for truly <= last && deep(x, y, place, truly) < least {
		truly++
	}
	if n, e := tide.First(x, place, least, first, true); e == api.OK && (deep(x, y, place, n) < least || n < truly) {
		t.Error("First, sure", x, n, truly)
	}
	if n, e := tide.First(x, place, least, first, false); truly <= last && (e != api.OK || n > truly) || e == api.OK && n > last {
		t.Error("First, not sure", x, n, e, truly)
	}
}

// P1.8: between two marks the water never falls if the second one is no lower in any truth, and never rises if it is no higher.
func TestWaterRisesOrFalls(t *testing.T) {
	rises, falls := 0, 0
	for seed := range uint64(150) {
		x, _ := looked(source(2000+seed), 2)
		for i := 1; i < len(x.Marks); i++ {
			a, b := x.Marks[i-1].Minute, x.Marks[i].Minute
			all := truths(x)
			higher := !slices.ContainsFunc(all, func(y truth) bool { return y.marks[i] < y.marks[i-1] })
			lower := !slices.ContainsFunc(all, func(y truth) bool { return y.marks[i] > y.marks[i-1] })
			for m := a + 1; m <= b; m++ {
				s, _ := tide.Height(x, m-1)
				u, _ := tide.Height(x, m)
				if higher && (u.Lo < s.Lo || u.Hi < s.Hi) || lower && (u.Lo > s.Lo || u.Hi > s.Hi) {
					t.Error(x, m, s, u)
				}
			}
			if higher {
				rises++
			}
			if lower {
				falls++
			}
		}
	}
	if rises < 20 || falls < 20 {
		t.Error("too few tides rise, or fall", rises, falls)
	}
}

// P1.9, P2 and P3: with a look more, or a narrower one, nothing is told less exactly.
func TestOneLookMore(t *testing.T) {
	for seed := range uint64(80) {
		r := source(3000 + seed)
		x, y := looked(r, api.TideLooks-1)
		more := x
		more.Looks = append(slices.Clone(x.Looks), trueLook(r, x, y))
		noLess(t, r, x, more)
		if len(x.Looks) == 0 {
			continue
		}
		narrower := x
		narrower.Looks = slices.Clone(x.Looks)
		l := &narrower.Looks[r.IntN(len(x.Looks))]
		n := deep(x, y, l.Place, l.Minute)
		l.Depth = span(n, n)
		noLess(t, r, x, narrower)
	}
}

// noLess fails if the tide more tells something less exactly.
func noLess(t *testing.T, r *rand.Rand, x, more api.Tide) {
	first, last := minutes(x)
	n, _ := tide.Count(x)
	if u, e := tide.Count(more); e != api.OK || u > n || u == 0 {
		t.Error("Count", x, more, n, u, e)
	}
	for range 6 {
		m, place, least, most := from(r, first, last), r.IntN(len(x.Sand)), r.IntN(5), r.IntN(10)
		a, _ := tide.Height(x, m)
		b, e := tide.Height(more, m)
		if !covers(a, b) || e != api.OK {
			t.Error("Height", x, more, a, b, e)
		}
		a, _ = tide.Depth(x, place, m)
		if b, e = tide.Depth(more, place, m); !covers(a, b) || e != api.OK {
			t.Error("Depth", x, more, a, b, e)
		}
		a, _ = tide.Sand(x, place)
		if b, e = tide.Sand(more, place); !covers(a, b) || e != api.OK {
			t.Error("Sand", x, more, a, b, e)
		}
		surely, perhaps, _ := tide.Places(x, m, least, most)
		if s, p, e := tide.Places(more, m, least, most); surely&^s != 0 || p&^perhaps != 0 || e != api.OK {
			t.Error("Places", x, more, surely, perhaps, s, p, e)
		}
		noFewer(t, x, more, place, least, most)
	}
}

func noFewer(t *testing.T, x, more api.Tide, place, least, most int) {
	first, _ := minutes(x)
	l, _ := tide.Served(x, place, least, most)
	u, _ := tide.Served(more, place, least, most)
	for _, m := range minutesOf(l) {
		if !slices.Contains(minutesOf(u), m) {
			t.Error("Served", x, more, l, u)
		}
	}
	a, e := tide.First(x, place, least, first, true)
	if b, f := tide.First(more, place, least, first, true); e == api.OK && (f != api.OK || b > a) {
		t.Error("First, sure", x, more, a, e, b, f)
	}
	a, e = tide.First(x, place, least, first, false)
	if b, f := tide.First(more, place, least, first, false); f == api.OK && (e != api.OK || b < a) {
		t.Error("First, not sure", x, more, a, e, b, f)
	}
}

// P2: a mark behind all others changes nothing of the minutes before it.
func TestOneMarkMore(t *testing.T) {
	for seed := range uint64(60) {
		r := source(4000 + seed)
		x, _ := looked(r, 3)
		if len(x.Marks) == api.TideMarks {
			continue
		}
		first, last := minutes(x)
		more := x
		more.Marks = append(slices.Clone(x.Marks), mark(last+7, 3, 5))
		for m := first; m <= last; m++ {
			a, _ := tide.Height(x, m)
			if b, e := tide.Height(more, m); a != b || e != api.OK {
				t.Error(x, m, a, b, e)
			}
		}
	}
}

// P1.9: a look that is made as Next tells leaves no more truths than it tells, however deep it is found to be.
func TestLookAsNextTells(t *testing.T) {
	for seed := range uint64(80) {
		r := source(5000 + seed)
		x, _ := looked(r, api.TideLooks-1)
		first, last := minutes(x)
		m := from(r, first, last)
		place, left, e := tide.Next(x, m)
		if e != api.OK || left < 1 {
			t.Error(seed, place, left, e)
		}
		s, _ := tide.Depth(x, place, m)
		reached := false
		for n := s.Lo; n <= s.Hi; n++ {
			more := x
			more.Looks = append(slices.Clone(x.Looks), look(place, m, n, n))
			c, _ := tide.Count(more)
			if c > left {
				t.Error(seed, c, left)
			}
			reached = reached || c == left
		}
		if !reached {
			t.Error(seed, "Next tells more than can be left", left)
		}
	}
}

// P1.9 and P11: the order of looks makes no difference but to their numbers.
func TestOrderOfLooks(t *testing.T) {
	for seed := range uint64(80) {
		r := source(6000 + seed)
		x := wild(r)
		other := x
		other.Looks = slices.Clone(x.Looks)
		r.Shuffle(len(other.Looks), func(i, j int) { other.Looks[i], other.Looks[j] = other.Looks[j], other.Looks[i] })
		sameOf(t, r, x, other, func(place int) int { return place })
		a, e := tide.Clash(x)
		b, f := tide.Clash(other)
		if e != f || bits.OnesCount(uint(a)) != bits.OnesCount(uint(b)) {
			t.Error("Clash", x, other, a, e, b, f)
		}
	}
}

// P1.9 and P11: if places are numbered otherwise only their numbers change.
func TestOrderOfPlaces(t *testing.T) {
	for seed := range uint64(80) {
		r := source(7000 + seed)
		x := wild(r)
		new := r.Perm(len(x.Sand))
		other := api.Tide{Marks: x.Marks, Sand: make([]api.Span, len(x.Sand)), Looks: slices.Clone(x.Looks)}
		for old, s := range x.Sand {
			other.Sand[new[old]] = s
		}
		for i, l := range x.Looks {
			other.Looks[i].Place = new[l.Place]
		}
		sameOf(t, r, x, other, func(place int) int { return new[place] })
		a, e := tide.Clash(x)
		if b, f := tide.Clash(other); a != b || e != f {
			t.Error("Clash", x, other, a, e, b, f)
		}
	}
}

// sameOf fails unless both tides tell the same, the place p of the one being the place new(p) of the other one.
func sameOf(t *testing.T, r *rand.Rand, x, other api.Tide, new func(int) int) {
	first, last := minutes(x)
	n, _ := tide.Count(x)
	if u, e := tide.Count(other); n != u || e != api.OK {
		t.Error("Count", x, other, n, u, e)
	}
	for range 4 {
		m, least, most := from(r, first, last), r.IntN(5), r.IntN(10)
		a, e := tide.Height(x, m)
		if b, f := tide.Height(other, m); a != b || e != f {
			t.Error("Height", x, other, a, e, b, f)
		}
		_, left, e := tide.Next(x, m)
		if _, u, f := tide.Next(other, m); left != u || e != f {
			t.Error("Next", x, other, left, e, u, f)
		}
		surely, perhaps, e := tide.Places(x, m, least, most)
		s, p, f := tide.Places(other, m, least, most)
		if renumbered(surely, new) != s || renumbered(perhaps, new) != p || e != f {
			t.Error("Places", x, other, surely, perhaps, e, s, p, f)
		}
		for place := range x.Sand {
			samePlace(t, x, other, place, new(place), m, least, most)
		}
	}
}

func samePlace(t *testing.T, x, other api.Tide, place, there, m, least, most int) {
	a, e := tide.Depth(x, place, m)
	if b, f := tide.Depth(other, there, m); a != b || e != f {
		t.Error("Depth", x, other, a, e, b, f)
	}
	a, e = tide.Sand(x, place)
	if b, f := tide.Sand(other, there); a != b || e != f {
		t.Error("Sand", x, other, a, e, b, f)
	}
	l, e := tide.Served(x, place, least, most)
	if u, f := tide.Served(other, there, least, most); !slices.Equal(l, u) || e != f {
		t.Error("Served", x, other, l, e, u, f)
	}
	for _, sure := range []bool{false, true} {
		n, e := tide.First(x, place, least, m, sure)
		if u, f := tide.First(other, there, least, m, sure); n != u || e != f {
			t.Error("First", x, other, n, e, u, f)
		}
	}
}

// renumbered is a set of places with their new numbers.
func renumbered(set int, new func(int) int) int {
	n := 0
	for place := range api.TidePlaces {
		if set>>place&1 == 1 {
			n |= 1 << new(place)
		}
	}
	return n
}

// P1 and P11: the same call tells the same, whatever is called at the same time.
func TestSameCallSameResult(t *testing.T) {
	done := make(chan [2]int)
	for range 8 {
		go func() {
			place, left, _ := tide.Next(tideT(), 0)
			done <- [2]int{place, left}
		}()
	}
	for range 8 {
		if x := <-done; x != [2]int{0, 3} {
			t.Error(x)
		}
	}
}
