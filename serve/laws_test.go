package serve_test

import (
	"slices"
	"testing"

	"dipworks/api"
	"dipworks/horse"
	"dipworks/serve"
	"dipworks/tide"
)

// seen counts what random serves test.
type seen struct {
	clash, both, more                    int
	count, steps, horses, drop, breaking map[int]int
}

// P8.1 to P8.6, of many serves, against all plans.
func TestAgainstAllPlans(t *testing.T) {
	n := seen{count: map[int]int{}, steps: map[int]int{}, horses: map[int]int{}, drop: map[int]int{}, breaking: map[int]int{}}
	for seed := range uint64(2000) {
		s := anyServe(source(seed))
		if many, e := tide.Count(s.Tide); e != api.OK {
			t.Fatal(seed, s, e)
		} else if many == 0 {
			n.clash++
			checkClash(t, s)
			continue
		}
		x := looked(s)
		for bather, places := range x.right {
			checkRight(t, s, bather, places...)
		}
		checkSomePlans(t, x, source(10000+seed), &n)
		checkChosen(t, x, &n)
		checkDropped(t, x, &n)
	}
	if n.clash < 50 || n.count[0] < 300 || n.count[1] < 200 || n.more < 300 || n.both < 5 {
		t.Error("the serves do not test all cases", n)
	}
	for many, least := range []int{300, 100, 20} {
		if n.steps[many] < least || n.horses[many] < least || n.drop[many] < least || n.breaking[many] < least {
			t.Error("the serves do not test all cases", many, n)
		}
	}
}

// checkClash fails unless there is no truth.
func checkClash(t *testing.T, s api.Serve) {
	for _, f := range calls() {
		if len(s.Bathers) > 0 || !f.bather {
			if e, zero := f.do(s, 0, make([]int, len(s.Bathers))); e != api.ErrClash || !zero {
				t.Error(f.name, s, e, zero)
			}
		}
	}
}

// checkSomePlans looks at Check and Moves, of random plans.
func checkSomePlans(t *testing.T, x look, r interface{ IntN(int) int }, n *seen) {
	for range 10 {
		plan := make([]int, len(x.Bathers))
		for b := range plan {
			plan[b] = r.IntN(len(x.Tide.Sand))
		}
		bather, rule, want := 0, 0, api.ErrNone
		for b := range plan {
			if rule = x.breaks(plan, b); rule != 0 {
				bather, want = b, api.OK
				break
			}
		}
		n.breaking[rule]++
		checkCheck(t, x.Serve, bather, rule, want, plan...)
		checkMoves(t, x.Serve, plan, x.moves(plan)...)
	}
}

// checkChosen looks at Count, Best and Horses.
func checkChosen(t *testing.T, x look, n *seen) {
	right, e := x.rightPlans(), api.OK
	checkCount(t, x.Serve, len(right))
	if len(right) == 0 {
		e = api.ErrNone
	}
	steps, best := least(right, x.steps)
	checkBest(t, x.Serve, steps, e, best...)
	many, fewest := least(right, func(plan []int) int { return horses(x.Pace, x.moves(plan)) })
	checkHorses(t, x.Serve, many, e, fewest...)
	n.count[len(right)]++
	if len(right) > 1 {
		n.more++
	}
	if e == api.OK {
		n.steps[steps]++
		n.horses[many]++
	}
	if !slices.Equal(best, fewest) {
		n.both++
	}
}

// checkDropped looks at First and Drop.
func checkDropped(t *testing.T, x look, n *seen) {
	if bather := x.first(); bather < 0 {
		checkFirst(t, x.Serve, 0, api.ErrNone)
	} else {
		checkFirst(t, x.Serve, bather, api.OK)
	}
	bathers := x.drop()
	n.drop[size(bathers)]++
	checkDrop(t, x.Serve, bathers)
}

// P8.8, P2 and P4: however high the tide truly is, by a right plan each bather has the right water.
func TestWaterIsTrulyRight(t *testing.T) {
	served := 0
	for seed := range uint64(1000) {
		s, x := story(source(20000 + seed))
		for n, b := range s.Bathers {
			places, e := serve.Right(s, n)
			if e != api.OK {
				t.Fatal(seed, s, n, e)
			}
			for place := range s.Tide.Sand {
				if places>>place&1 == 0 {
					continue
				}
				served++
				for minute := b.From; minute < b.To; minute++ {
					if d := x.depth(s.Tide, place, minute); d < b.Least || d > b.Most {
						t.Error(seed, s, x, n, place, minute, d)
					}
				}
			}
		}
	}
	if served < 1000 {
		t.Error("the serves test too little", served)
	}
}

// P8.8 and P9: however long moves truly take, by a right plan each hut is there in time, and no horse is late.
func TestHutsAreTrulyInTime(t *testing.T) {
	moved := 0
	for seed := range uint64(1000) {
		s := calmStory(source(30000 + seed))
		many, plan, e := serve.Horses(s)
		if e != api.OK {
			continue
		}
		moves, _ := serve.Moves(s, plan)
		moved += len(moves)
		h := api.Horses{Pace: s.Pace, Moves: moves}
		enough, does, _ := horse.Fewest(h, true)
		late, e := horse.Late(h, does)
		if enough != many || e != api.OK || slices.ContainsFunc(late, func(l api.Span) bool { return l != span(0, 0) }) {
			t.Error(seed, s, many, plan, enough, does, late, e)
		}
		for _, m := range moves {
			if !isThere(s, plan, m) {
				t.Error(seed, s, plan, m)
			}
		}
	}
	if moved < 200 {
		t.Error("the serves test too little", moved)
	}
}

// isThere returns whether the hut that is moved stands where the next bather wants it before this one comes, even if the move takes as long as it can; and whether nobody is in it before.
func isThere(s api.Serve, plan []int, m api.HorseMove) bool {
	next := -1
	for n, b := range s.Bathers {
		if b.Hut != m.Place {
			continue
		}
		if b.From < m.At && b.To > m.At {
			return false
		}
		if b.From >= m.At && (next < 0 || b.From < s.Bathers[next].From) {
			next = n
		}
	}
	return next >= 0 && m.At+m.Long.Hi <= s.Bathers[next].From
}

// change is what makes no right plan wrong: of a serve, or of one of its bathers.
type change struct {
	name string
	do   func(r interface{ IntN(int) int }, s *api.Serve, b *api.ServeBather)
}

func changes() []change {
	return []change{
		{"a greater Most", func(r interface{ IntN(int) int }, _ *api.Serve, b *api.ServeBather) { b.Most += r.IntN(61 - b.Most) }},
		{"a lesser Least", func(r interface{ IntN(int) int }, _ *api.Serve, b *api.ServeBather) { b.Least = r.IntN(b.Least + 1) }},
		{"a later From", func(r interface{ IntN(int) int }, _ *api.Serve, b *api.ServeBather) { b.From += r.IntN(b.To - b.From) }},
		{"an earlier To", func(r interface{ IntN(int) int }, _ *api.Serve, b *api.ServeBather) { b.To -= r.IntN(b.To - b.From) }},
		{"harder sand", func(r interface{ IntN(int) int }, s *api.Serve, _ *api.ServeBather) {
			s.Soft = span(1, 1+r.IntN(s.Soft.Hi))
		}},
		{"sand as hard as can be", func(_ interface{ IntN(int) int }, s *api.Serve, _ *api.ServeBather) { s.Soft.Hi = s.Soft.Lo }},
		{"another pace", func(r interface{ IntN(int) int }, s *api.Serve, _ *api.ServeBather) { s.Pace = r.IntN(4) }},
	}
}

// P8.8: a right plan stays right.
func TestRightPlansStayRight(t *testing.T) {
	right, wrong := 0, 0
	for seed := range uint64(1000) {
		r := source(40000 + seed)
		s, x := story(r)
		_, plan, e := serve.Best(s)
		if e != api.OK || len(plan) == 0 {
			continue
		}
		before, _ := serve.Count(s)
		n := r.IntN(len(plan))
		after := func(name string, y api.Serve) {
			checkCheck(t, y, 0, 0, api.ErrNone, plan...)
			many, _ := serve.Count(y)
			if many < before {
				t.Error(seed, name, s, y, before, many)
			}
			if many > before {
				right++
			}
		}
		for _, c := range changes() {
			y := s
			y.Bathers = slices.Clone(s.Bathers)
			c.do(r, &y, &y.Bathers[n])
			after(c.name, y)
		}
		y := s
		y.Tide.Looks = append(slices.Clone(s.Tide.Looks), x.someLook(r, s.Tide), x.someLook(r, s.Tide))
		after("looks more", y)
		y.Tide.Looks = y.Tide.Looks[:len(y.Tide.Looks)-1]
		after("a look more", y)
		z := s
		z.Bathers = slices.Clone(s.Bathers)
		z.Bathers[n].Most = z.Bathers[n].Least
		if _, _, e := serve.Check(z, plan); e == api.OK {
			wrong++
		}
	}
	if right < 300 || wrong < 100 {
		t.Error("the serves test one case only", right, wrong)
	}
}

// P8.8: by no right plan huts are moved less than by Best, nor do fewer horses do than by Horses.
func TestNothingIsLess(t *testing.T) {
	for seed := range uint64(300) {
		s := soundServe(source(50000 + seed))
		steps, best, e := serve.Best(s)
		many, fewest, f := serve.Horses(s)
		if e != f {
			t.Error(seed, s, e, f)
		}
		if e != api.OK {
			continue
		}
		for plan := range (look{Serve: s}).plans() {
			if _, _, e := serve.Check(s, plan); e != api.ErrNone {
				continue
			}
			moves, _ := serve.Moves(s, plan)
			n, _, _ := horse.Fewest(api.Horses{Pace: s.Pace, Moves: moves}, true)
			far := 0
			for _, m := range moves {
				far += m.Long.Lo / s.Soft.Lo
			}
			if far < steps || far == steps && slices.Compare(plan, best) < 0 || n < many || n == many && slices.Compare(plan, fewest) < 0 {
				t.Error(seed, s, plan, far, steps, best, n, many, fewest)
			}
		}
	}
}

// P8.8 and P11: if huts, or bathers, are numbered otherwise as many plans are right, and as many bathers have to be turned away.
func TestNumberedOtherwise(t *testing.T) {
	some := 0
	for seed := range uint64(500) {
		r := source(60000 + seed)
		s := soundServe(r)
		many, _ := serve.Count(s)
		steps, _, e := serve.Best(s)
		drop, _ := serve.Drop(s)
		y := s
		y.Bathers = nil
		numbers, huts := r.Perm(len(s.Bathers)), r.Perm(4)
		for _, n := range numbers {
			y.Bathers = append(y.Bathers, s.Bathers[n])
		}
		for n := range y.Bathers {
			y.Bathers[n].Hut = huts[y.Bathers[n].Hut]
		}
		checkCount(t, y, many)
		far, _, f := serve.Best(y)
		other, _ := serve.Drop(y)
		if far != steps || e != f || size(other) != size(drop) {
			t.Error(seed, s, y, steps, e, drop, far, f, other)
		}
		for n, old := range numbers {
			places, _ := serve.Right(s, old)
			if p, e := serve.Right(y, n); p != places || e != api.OK {
				t.Error(seed, "Right", s, y, n, p, places, e)
			}
		}
		if many > 0 && len(numbers) > 1 {
			some++
		}
	}
	if some < 100 {
		t.Error("the serves test one case only", some)
	}
}

// P8.6 and P4: without those whom Drop names all others can be served, and with those up to First not all.
func TestWhoIsTurnedAway(t *testing.T) {
	several := 0
	for seed := range uint64(1000) {
		s := soundServe(source(70000 + seed))
		drop, _ := serve.Drop(s)
		bather, e := serve.First(s)
		if (e == api.ErrNone) != (drop == 0) {
			t.Error(seed, s, drop, bather, e)
		}
		if size(drop) > 1 {
			several++
		}
		rest, upTo := s, s
		rest.Bathers = nil
		for n, b := range s.Bathers {
			if drop>>n&1 == 0 {
				rest.Bathers = append(rest.Bathers, b)
			}
		}
		if n, e := serve.Count(rest); n == 0 || e != api.OK {
			t.Error(seed, "Drop", s, drop, n, e)
		}
		checkDrop(t, rest, 0)
		checkFirst(t, rest, 0, api.ErrNone)
		if e == api.OK {
			upTo.Bathers = s.Bathers[:bather+1]
			checkCount(t, upTo, 0)
			upTo.Bathers = s.Bathers[:bather]
			checkDrop(t, upTo, 0)
		}
	}
	if several < 20 {
		t.Error("the serves test one case only", several)
	}
}

// P1 and P11: the same call tells the same, whatever is called at the same time.
func TestSameCallSameResult(t *testing.T) {
	done := make(chan [6]int)
	for range 8 {
		go func() {
			places, _ := serve.Right(serveS(), 3)
			many, _ := serve.Count(serveS())
			steps, best, _ := serve.Best(serveS())
			_, horses, _ := serve.Horses(serveS())
			drop, _ := serve.Drop(serveN())
			done <- [6]int{places, many, steps, best[3], horses[3], drop}
		}()
	}
	for range 8 {
		if x := <-done; x != [6]int{3, 2, 1, 1, 0, 16} {
			t.Error(x)
		}
	}
}
