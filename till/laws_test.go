package till_test

import (
	"math/rand/v2"
	"slices"
	"testing"

	"dipworks/api"
	"dipworks/till"
)

// P13.1 to P13.6, and P13.8: random tills tell what an enumeration of their truths tells. Both ends of each span are those of a truth, as they are told by truths.
func TestAgainstTruths(t *testing.T) {
	fines, backs, joint := map[api.Span]bool{}, map[api.Span]bool{}, 0
	for seed := range uint64(1500) {
		r := source(seed)
		x, all := possible(r, 5)
		checkTakings(t, x, x.Price*len(x.Tickets.Tickets), api.OK)
		together := ends(all, func(y truth) int { return y.fines(x) })
		checkFines(t, x, together, api.OK)
		for n := range x.Tickets.Tickets {
			fine := ends(all, func(y truth) int { return y.fine(x, n) })
			back := ends(all, func(y truth) int { return y.back(x, n) })
			checkFine(t, x, n, fine, api.OK)
			checkBack(t, x, n, back, api.OK)
			together = span(together.Lo-fine.Lo, together.Hi-fine.Hi)
			if x.Fine > 0 {
				fines[span(fine.Lo/x.Fine, fine.Hi/x.Fine)] = true
			}
			if x.Wait > 0 {
				backs[span(back.Lo/x.Wait, back.Hi/x.Wait)] = true
			}
		}
		if together != span(0, 0) {
			joint++
		}
		if t.Failed() {
			t.Fatal(seed)
		}
	}
	if len(fines) != 3 || len(backs) < 8 || joint < 50 {
		t.Error("the tills test too little", fines, backs, joint)
	}
}

// P13.4 to P13.6: random books are told to be as the chapter's words say.
func TestBooksAgainstTruths(t *testing.T) {
	rules, gaps := [3]int{}, [3]int{}
	for seed := range uint64(3000) {
		r := source(100000 + seed)
		x, all := possible(r, 4)
		for range 3 {
			b := scrawl(r, x, all[r.IntN(len(all))])
			n, rule := fault(x, all, b)
			rules[rule]++
			if rule == 0 {
				checkRight(t, x, b, total(b))
			} else {
				checkFault(t, x, b, n, rule)
			}
			sets := missing(x, all, b)
			checkMissing(t, x, b, sets, api.OK)
			for k, set := range sets {
				if set != 0 {
					gaps[k]++
				}
			}
		}
		if t.Failed() {
			t.Fatal(seed)
		}
	}
	if min(rules[0], rules[1], rules[2], gaps[0], gaps[1], gaps[2]) < 300 {
		t.Error("the books test too little", rules, gaps)
	}
}

// P13.8, P2 and P10: what is true is within what is told, and the true book is right, has nothing missing, and comes to what was taken.
func TestWhatIsTrueIsTold(t *testing.T) {
	for seed := range uint64(1500) {
		r := source(200000 + seed)
		x, all := possible(r, 5)
		y := all[r.IntN(len(all))]
		for n := range x.Tickets.Tickets {
			if s, e := till.Fine(x, n); e != api.OK || !isIn(y.fine(x, n), s) {
				t.Error(seed, "Fine", x, y, n, s, e)
			}
			if s, e := till.Back(x, n); e != api.OK || !isIn(y.back(x, n), s) {
				t.Error(seed, "Back", x, y, n, s, e)
			}
		}
		if s, e := till.Fines(x); e != api.OK || !isIn(y.fines(x), s) {
			t.Error(seed, "Fines", x, y, s, e)
		}
		b := y.book(x, func() bool { return r.IntN(2) == 0 })
		r.Shuffle(len(b), func(i, j int) { b[i], b[j] = b[j], b[i] })
		checkRight(t, x, b, y.taken(x))
		checkMissing(t, x, b, [3]int{}, api.OK)
		if t.Failed() {
			t.Fatal(seed)
		}
	}
}

func isIn(n int, s api.Span) bool { return s.Lo <= n && n <= s.Hi }

// P13.9: without some entries a right book is right, and comes to that much less.
func TestEntriesLeftOut(t *testing.T) {
	for seed := range uint64(600) {
		r := source(300000 + seed)
		x, all := possible(r, 4)
		b := all[r.IntN(len(all))].book(x, func() bool { return true })
		for len(b) > 0 {
			n := r.IntN(len(b))
			before, _ := till.Sum(x, b)
			left := total(b[n : n+1])
			b = slices.Delete(b, n, n+1)
			checkRight(t, x, b, before-left)
		}
		if t.Failed() {
			t.Fatal(seed)
		}
	}
}

// P13.9 and P11: the order of entries makes no difference to what a book comes to, to what is missing, or to whether it is right.
func TestOrderOfEntries(t *testing.T) {
	right := 0
	for seed := range uint64(1000) {
		r := source(400000 + seed)
		x, all := possible(r, 4)
		b := scrawl(r, x, all[r.IntN(len(all))])
		other := slices.Clone(b)
		r.Shuffle(len(other), func(i, j int) { other[i], other[j] = other[j], other[i] })
		n, e := till.Sum(x, b)
		checkSum(t, x, other, n, e)
		if e == api.OK {
			right++
		}
		p, f, k, e := till.Missing(x, b)
		checkMissing(t, x, other, [3]int{p, f, k}, e)
		if t.Failed() {
			t.Fatal(seed)
		}
	}
	if right < 200 || right > 800 {
		t.Error("the books test one case only", right)
	}
}

// better is a till of which one minute is known better.
func better(r *rand.Rand, x api.Till) api.Till {
	x.Tickets.Tickets = slices.Clone(x.Tickets.Tickets)
	y := &x.Tickets.Tickets[r.IntN(len(x.Tickets.Tickets))]
	s := &y.Bought
	if r.IntN(2) == 0 {
		s = &y.Door
	}
	s.Lo = from(r, s.Lo, s.Hi)
	s.Hi = from(r, s.Lo, s.Hi)
	return x
}

// P2: if a minute is known better nothing is told less exactly, unless there is no truth then: spans are within those before, no other book is right, and nothing less is missing.
func TestKnownBetter(t *testing.T) {
	narrower, wrong, more := 0, 0, 0
	for seed := range uint64(6000) {
		r := source(500000 + seed)
		x, all := possible(r, 5)
		if len(x.Tickets.Tickets) == 0 {
			continue
		}
		y := better(r, x)
		fines, e := till.Fines(y)
		if e == api.ErrClash {
			continue
		}
		before, _ := till.Fines(x)
		isNarrower := within(t, fines, before)
		for n := range x.Tickets.Tickets {
			a, _ := till.Fine(x, n)
			b, _ := till.Fine(y, n)
			c, _ := till.Back(x, n)
			d, _ := till.Back(y, n)
			isNarrower = within(t, b, a) || within(t, d, c) || isNarrower
		}
		b := scrawl(r, x, all[r.IntN(len(all))])
		_, e = till.Sum(x, b)
		_, f := till.Sum(y, b)
		p1, f1, k1, _ := till.Missing(x, b)
		p2, f2, k2, _ := till.Missing(y, b)
		if f == api.OK && e != api.OK || p1 != p2 || f1&^f2 != 0 || k1&^k2 != 0 {
			t.Fatal(seed, x, y, b, e, f, f1, f2, k1, k2)
		}
		narrower += number(isNarrower)
		wrong += number(e != f)
		more += number(f1 != f2 || k1 != k2)
	}
	if min(narrower, wrong, more) < 20 {
		t.Error("the tills test too little", narrower, wrong, more)
	}
}

// within fails unless a span is within another one; it returns whether it is narrower.
func within(t *testing.T, s, of api.Span) bool {
	t.Helper()
	if s.Lo < of.Lo || s.Hi > of.Hi {
		t.Error("not within", s, of)
	}
	return s != of
}

func number(is bool) int {
	if is {
		return 1
	}
	return 0
}

// P13.8: if all is known nothing is perhaps so, and the one book is that of the truth.
func TestAllIsKnown(t *testing.T) {
	for seed := range uint64(500) {
		r := source(600000 + seed)
		x, all := possible(r, 5)
		y := all[r.IntN(len(all))]
		for n := range x.Tickets.Tickets {
			z := &x.Tickets.Tickets[n]
			z.Bought, z.Door = span(y.bought[n], y.bought[n]), span(y.door[n], y.door[n])
		}
		for n := range x.Tickets.Tickets {
			checkFine(t, x, n, span(y.fine(x, n), y.fine(x, n)), api.OK)
			checkBack(t, x, n, span(y.back(x, n), y.back(x, n)), api.OK)
		}
		checkFines(t, x, span(y.fines(x), y.fines(x)), api.OK)
		b := y.book(x, func() bool { return true })
		checkRight(t, x, b, y.taken(x))
		for n := range b {
			for _, by := range []int{-1, 1} {
				wrong := slices.Clone(b)
				wrong[n].Pence += by
				checkFault(t, x, wrong, n, api.TillWrong)
			}
		}
		if t.Failed() {
			t.Fatal(seed)
		}
	}
}

// What the functions tell agrees: a book of all prices comes to what is taken, and an empty one lacks what is surely due.
func TestFunctionsAgree(t *testing.T) {
	for seed := range uint64(500) {
		x, _ := possible(source(700000+seed), 5)
		sets := [3]int{}
		var b []api.TillEntry
		for n := range x.Tickets.Tickets {
			b = append(b, entry(n, api.TillPrice, x.Price))
			fine, _ := till.Fine(x, n)
			back, _ := till.Back(x, n)
			sets[0] |= 1 << n
			sets[1] |= number(fine.Lo > 0) << n
			sets[2] |= number(back.Lo > 0) << n
			checkRight(t, x, book(entry(n, api.TillBack, back.Lo)), -back.Lo)
			checkRight(t, x, book(entry(n, api.TillBack, back.Hi)), -back.Hi)
			if fine.Hi > 0 {
				checkRight(t, x, book(entry(n, api.TillFine, fine.Hi)), fine.Hi)
			}
		}
		all, _ := till.Takings(x)
		checkRight(t, x, b, all)
		checkMissing(t, x, nil, sets, api.OK)
		sets[0] = 0
		checkMissing(t, x, b, sets, api.OK)
		if t.Failed() {
			t.Fatal(seed)
		}
	}
}

// P11: huts numbered otherwise, or all of it so many minutes later, make no difference.
func TestOtherwise(t *testing.T) {
	for seed := range uint64(500) {
		r := source(800000 + seed)
		x, all := possible(r, 4)
		y := x
		y.Tickets.Tickets = slices.Clone(x.Tickets.Tickets)
		huts, later := r.Perm(x.Tickets.Huts), r.IntN(20)
		for n := range y.Tickets.Tickets {
			z := &y.Tickets.Tickets[n]
			z.Hut = huts[z.Hut]
			z.Bought = span(z.Bought.Lo+later, z.Bought.Hi+later)
			z.Door = span(z.Door.Lo+later, z.Door.Hi+later)
		}
		fines, e := till.Fines(x)
		checkFines(t, y, fines, e)
		for n := range x.Tickets.Tickets {
			fine, e := till.Fine(x, n)
			checkFine(t, y, n, fine, e)
			back, e := till.Back(x, n)
			checkBack(t, y, n, back, e)
		}
		b := scrawl(r, x, all[r.IntN(len(all))])
		n, rule, e := till.Check(x, b)
		checkCheck(t, y, b, n, rule, e)
		p, f, k, e := till.Missing(x, b)
		checkMissing(t, y, b, [3]int{p, f, k}, e)
		n, e = till.Sum(x, b)
		checkSum(t, y, b, n, e)
		if t.Failed() {
			t.Fatal(seed)
		}
	}
}
