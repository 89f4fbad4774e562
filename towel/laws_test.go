package towel_test

import (
	"math/bits"
	"math/rand/v2"
	"slices"
	"testing"

	"dipworks/api"
	"dipworks/towel"
)

// seen counts what random towels test.
type seen struct {
	none, alone, several int         // How many truths there are.
	clash, keepers       map[int]int // How many clash, and how many have kept towels at least.
}

// P6.1 to P6.6, of many towels, against all truths.
func TestAgainstAllTruths(t *testing.T) {
	n := seen{clash: map[int]int{}, keepers: map[int]int{}}
	for seed := range uint64(1200) {
		checkTowels(t, anyTowels(source(seed)), &n)
	}
	if n.none < 200 || n.alone < 200 || n.several < 400 {
		t.Error("the towels do not test all cases", n)
	}
	for many, least := range []int{0, 50, 40, 10, 5, 5, 5} {
		if n.clash[many] < least || n.keepers[many] < 5 {
			t.Error("the towels do not test all cases", many, n)
		}
	}
}

// checkTowels looks at all that is told of towels.
func checkTowels(t *testing.T, x api.Towels, n *seen) {
	list := ways(x)
	found := truths(x, list)
	checkCounts(t, x, list, len(found), n)
	checkOwn(t, x)
	if len(found) == 0 {
		for _, f := range calls() {
			if e, other := f.do(x, 0); !f.noClashes && len(x.Bathers) > 0 && (e != api.ErrClash || other != zero) {
				t.Error(f.name, x, e, other)
			}
		}
		return
	}
	checkKept(t, x, found)
	checkKeepers(t, x, found, n)
	checkSearch(t, x, found)
}

// checkCounts looks at Count and Clash.
func checkCounts(t *testing.T, x api.Towels, list []truth, many int, n *seen) {
	if c, e := towel.Count(x); c != many || e != api.OK {
		t.Error("Count", x, c, e, many)
	}
	best, is := clash(x, list)
	want := api.OK
	switch {
	case many == 0:
		n.none++
		n.clash[best.size()]++
	case many == 1:
		n.alone++
		want = api.ErrNone
	default:
		n.several++
		want = api.ErrNone
	}
	if a, b, e := towel.Clash(x); a != best.huts || b != best.halves || e != want || is != (many == 0) {
		t.Error("Clash", x, a, b, e, best)
	}
}

// checkOwn looks at Own.
func checkOwn(t *testing.T, x api.Towels) {
	for b, y := range x.Bathers {
		l := numbers(y)
		if s, e := towel.Own(x, b); s != span(slices.Min(l), slices.Max(l)) || s.Hi-s.Lo+1 != len(l) || e != api.OK {
			t.Error("Own", x, b, s, e, l)
		}
	}
}

// checkKept looks at Kept and All. By P6.8 each number of what is told is one of a truth.
func checkKept(t *testing.T, x api.Towels, found []truth) {
	for b := range x.Bathers {
		own, many := ends(found, func(y truth) int { return y[b] })
		if s, e := towel.Kept(x, b); s != own || s.Hi-s.Lo+1 != many || e != api.OK {
			t.Error("Kept", x, b, s, e, own, many)
		}
	}
	every, many := ends(found, truth.all)
	if s, e := towel.All(x); s != every || s.Hi-s.Lo+1 != many || e != api.OK {
		t.Error("All", x, s, e, every, many)
	}
}

// checkKeepers looks at Who and Fewest.
func checkKeepers(t *testing.T, x api.Towels, found []truth, n *seen) {
	surely, perhaps := 1<<len(x.Bathers)-1, 0
	few := surely
	for _, y := range found {
		set := y.keepers()
		surely, perhaps = surely&set, perhaps|set
		if a, b := bits.OnesCount(uint(set)), bits.OnesCount(uint(few)); a < b || a == b && set < few {
			few = set
		}
	}
	if a, b, e := towel.Who(x); a != surely || b != perhaps || e != api.OK {
		t.Error("Who", x, a, b, e, surely, perhaps)
	}
	if m, s, e := towel.Fewest(x); m != bits.OnesCount(uint(few)) || s != few || e != api.OK {
		t.Error("Fewest", x, m, s, e, few)
	}
	n.keepers[bits.OnesCount(uint(few))]++
}

// checkSearch looks at Search.
func checkSearch(t *testing.T, x api.Towels, found []truth) {
	best, want := 0, api.OK
	for b := range x.Bathers {
		if left(found, b) < left(found, best) {
			best = b
		}
	}
	least := 0
	if len(found) == 1 {
		best, want = 0, api.ErrRefuse
	} else {
		least = left(found, best)
	}
	if b, m, e := towel.Search(x); b != best || m != least || e != want {
		t.Error("Search", x, b, m, e, best, least)
	}
}

// P6.6 of towels of which each bather can have kept any number, so that only many counts together clash.
func TestClashesOfMany(t *testing.T) {
	n := seen{clash: map[int]int{}}
	for seed := range uint64(150) {
		r := source(3000 + seed)
		x := wide(r)
		if seed%3 == 0 {
			x = ring(free(3), free(3))
		}
		x = miscounted(r, counted(r, x, way(r, x), r.IntN(2)), 1)
		list := ways(x)
		checkCounts(t, x, list, len(truths(x, list)), &n)
	}
	if n.clash[4] < 5 || n.clash[5] < 5 || n.clash[6] < 5 {
		t.Error("the towels do not test all cases", n)
	}
}

// possible is random towels, and one of their truths.
func possible(r *rand.Rand) (api.Towels, truth) {
	t := some(r)
	if r.IntN(3) == 0 {
		t = wide(r)
	}
	x := way(r, t)
	return counted(r, t, x, r.IntN(5)), x
}

// P6.8, P2 and P8: what is true is told.
func TestWhatIsTrueIsTold(t *testing.T) {
	for seed := range uint64(200) {
		x, y := possible(source(4000 + seed))
		for b, n := range y[:len(x.Bathers)] {
			for name, f := range map[string]func(api.Towels, int) (api.Span, api.Errno){"Own": towel.Own, "Kept": towel.Kept} {
				if s, e := f(x, b); !holds(s, n) || e != api.OK {
					t.Error(seed, name, x, y, b, s, e)
				}
			}
		}
		set := y.keepers()
		if surely, perhaps, e := towel.Who(x); surely&^set != 0 || set&^perhaps != 0 || e != api.OK {
			t.Error(seed, "Who", x, y, surely, perhaps, e)
		}
		if s, e := towel.All(x); !holds(s, y.all()) || e != api.OK {
			t.Error(seed, "All", x, y, s, e)
		}
		if n, e := towel.Count(x); n < 1 || e != api.OK {
			t.Error(seed, "Count", x, y, n, e)
		}
		if n, s, e := towel.Fewest(x); n > bits.OnesCount(uint(set)) || n != bits.OnesCount(uint(s)) || e != api.OK {
			t.Error(seed, "Fewest", x, y, n, s, e)
		}
		if a, b, e := towel.Clash(x); a != 0 || b != 0 || e != api.ErrNone {
			t.Error(seed, "Clash", x, y, a, b, e)
		}
	}
}

// P6.3 and P6.5: the truths are those in which a bather has kept one number, and those with another number; one that is searched leaves so many at most.
func TestTruthsByNumbers(t *testing.T) {
	searched := 0
	for seed := range uint64(100) {
		x, _ := possible(source(5000 + seed))
		whom, most, e := towel.Search(x)
		all, _ := towel.Count(x)
		for b := range x.Bathers {
			kept, _ := towel.Kept(x, b)
			sum, greatest := 0, 0
			for n := range 5 {
				many, f := towel.Count(pinned(x, b, n))
				if many > 0 != holds(kept, n) || f != api.OK {
					// Own words can rule out a number that counts leave.
					if own, _ := towel.Own(x, b); holds(own, n) {
						t.Error(seed, "Count", x, b, n, many, f, kept)
					}
					continue
				}
				sum, greatest = sum+many, max(greatest, many)
			}
			if sum != all {
				t.Error(seed, "Count", x, b, sum, all)
			}
			if e == api.OK && (greatest < most || greatest == most && b < whom || b == whom && greatest != most) {
				t.Error(seed, "Search", x, b, greatest, whom, most)
			}
		}
		if e == api.OK {
			searched++
		}
	}
	if searched < 50 {
		t.Error("the towels test one case only", searched)
	}
}

// P6.8 and P2: with a count, or words, known better nothing is told less exactly, unless there is no truth then.
func TestKnownBetter(t *testing.T) {
	none, fewer := 0, 0
	for seed := range uint64(300) {
		r := source(6000 + seed)
		x, _ := possible(r)
		y := better(r, x)
		before, _ := towel.Count(x)
		after, e := towel.Count(y)
		if after > before || e != api.OK {
			t.Error(seed, "Count", x, y, before, after, e)
		}
		if after == 0 {
			none++
			continue
		}
		if after < before {
			fewer++
		}
		noLess(t, x, y)
	}
	if none < 30 || fewer < 60 {
		t.Error("the towels test one case only", none, fewer)
	}
}

// noLess fails if of the second towels something is told less exactly.
func noLess(t *testing.T, x, y api.Towels) {
	for b := range x.Bathers {
		for name, f := range map[string]func(api.Towels, int) (api.Span, api.Errno){"Own": towel.Own, "Kept": towel.Kept} {
			before, _ := f(x, b)
			if s, e := f(y, b); !covers(before, s) || e != api.OK {
				t.Error(name, x, y, b, before, s, e)
			}
		}
	}
	surely, perhaps, _ := towel.Who(x)
	if a, b, e := towel.Who(y); surely&^a != 0 || b&^perhaps != 0 || e != api.OK {
		t.Error("Who", x, y, surely, perhaps, a, b, e)
	}
	all, _ := towel.All(x)
	if s, e := towel.All(y); !covers(all, s) || e != api.OK {
		t.Error("All", x, y, all, s, e)
	}
	few, _, _ := towel.Fewest(x)
	if n, _, e := towel.Fewest(y); n < few || e != api.OK {
		t.Error("Fewest", x, y, few, n, e)
	}
	_, left, _ := towel.Search(x)
	if _, n, e := towel.Search(y); n > left || e != api.OK && e != api.ErrRefuse {
		t.Error("Search", x, y, left, n, e)
	}
}

// A count that says nothing is as good as none: with another one known better only, of those that clash there are no more.
func TestFewerClash(t *testing.T) {
	clashes := 0
	for seed := range uint64(300) {
		r := source(7000 + seed)
		x := anyTowels(r)
		a, b, e := towel.Clash(x)
		if e != api.OK {
			continue
		}
		clashes++
		y := better(r, x)
		c, d, e := towel.Clash(y)
		if (choice{c, d}).size() > (choice{a, b}).size() || e != api.OK {
			t.Error(seed, "Clash", x, y, a, b, c, d, e)
		}
		// Without the others these clash as well, and without any one of them there is a truth.
		checkAlone(t, x, choice{a, b})
	}
	if clashes < 50 {
		t.Error("the towels test one case only", clashes)
	}
}

// checkAlone fails unless these counts clash alone, and none of them can be left out.
func checkAlone(t *testing.T, x api.Towels, c choice) {
	alone := x
	alone.Huts, alone.Halves = free(len(x.Huts)), free(len(x.Halves))
	for h := range x.Huts {
		if c.huts>>h&1 == 1 {
			alone.Huts[h] = x.Huts[h]
		}
	}
	for h := range x.Halves {
		if c.halves>>h&1 == 1 {
			alone.Halves[h] = x.Halves[h]
		}
	}
	if n, e := towel.Count(alone); n != 0 || e != api.OK {
		t.Error("Count", x, c, n, e)
	}
	for _, l := range [][]api.Span{alone.Huts, alone.Halves} {
		for h, s := range l {
			if s == span(0, 24) {
				continue
			}
			l[h] = span(0, 24)
			if n, e := towel.Count(alone); n == 0 || e != api.OK {
				t.Error("Count without one", x, c, n, e)
			}
			l[h] = s
		}
	}
}

// change is towels and other ones, of which the same is told but for numbers: the new numbers of bathers.
type change struct {
	old, new api.Towels
	number   []int
}

// set is a set of bathers by their new numbers.
func (c change) set(old int) (set int) {
	for a, b := range c.number {
		set |= old >> a & 1 << b
	}
	return set
}

// check fails unless the same is told; of several equally good ones another one may be named if bathers are numbered otherwise.
func (c change) check(t *testing.T) {
	for old, new := range c.number {
		for name, f := range map[string]func(api.Towels, int) (api.Span, api.Errno){"Own": towel.Own, "Kept": towel.Kept} {
			s, e := f(c.old, old)
			if other, g := f(c.new, new); other != s || g != e {
				t.Error(name, c, old, s, e, other, g)
			}
		}
	}
	surely, perhaps, e := towel.Who(c.old)
	if a, b, f := towel.Who(c.new); a != c.set(surely) || b != c.set(perhaps) || f != e {
		t.Error("Who", c, surely, perhaps, e, a, b, f)
	}
	all, e := towel.All(c.old)
	if s, f := towel.All(c.new); s != all || f != e {
		t.Error("All", c, all, e, s, f)
	}
	n, e := towel.Count(c.old)
	if m, f := towel.Count(c.new); m != n || f != e {
		t.Error("Count", c, n, e, m, f)
	}
	same := slices.IsSorted(c.number)
	few, set, e := towel.Fewest(c.old)
	if m, s, f := towel.Fewest(c.new); m != few || f != e || same && s != set {
		t.Error("Fewest", c, few, set, e, m, s, f)
	}
	whom, left, e := towel.Search(c.old)
	if b, m, f := towel.Search(c.new); m != left || f != e || same && b != whom {
		t.Error("Search", c, whom, left, e, b, m, f)
	}
	huts, halves, e := towel.Clash(c.old)
	if a, b, f := towel.Clash(c.new); (choice{a, b}).size() != (choice{huts, halves}).size() || f != e {
		t.Error("Clash", c, huts, halves, e, a, b, f)
	}
}

// unmoved is the numbers of bathers as they are.
func unmoved(t api.Towels) (list []int) {
	for n := range t.Bathers {
		list = append(list, n)
	}
	return list
}

// P6.8: if huts and half hours change places all is the same of each bather.
func TestHutsAndHalvesChangePlaces(t *testing.T) {
	for seed := range uint64(100) {
		x := anyTowels(source(8000 + seed))
		change{x, swapped(x), unmoved(x)}.check(t)
	}
}

// renumbered is counts by their new numbers.
func renumbered(old []api.Span, number []int) []api.Span {
	l := make([]api.Span, len(old))
	for a, b := range number {
		l[b] = old[a]
	}
	return l
}

// P6.8 and P11: if huts or half hours are numbered otherwise nothing else changes.
func TestHutsAndHalvesNumberedOtherwise(t *testing.T) {
	for seed := range uint64(100) {
		r := source(9000 + seed)
		x := anyTowels(r)
		huts, halves := r.Perm(len(x.Huts)), r.Perm(len(x.Halves))
		y := x
		y.Huts, y.Halves, y.Bathers = renumbered(x.Huts, huts), renumbered(x.Halves, halves), slices.Clone(x.Bathers)
		for i, b := range x.Bathers {
			y.Bathers[i].Hut, y.Bathers[i].Half = huts[b.Hut], halves[b.Half]
		}
		change{x, y, unmoved(x)}.check(t)
	}
}

// P6.8 and P11: if bathers are numbered otherwise only their numbers change.
func TestBathersNumberedOtherwise(t *testing.T) {
	for seed := range uint64(100) {
		r := source(10000 + seed)
		x := anyTowels(r)
		c := change{x, x, r.Perm(len(x.Bathers))}
		c.new.Bathers = make([]api.TowelBather, len(x.Bathers))
		for a, b := range c.number {
			c.new.Bathers[b] = x.Bathers[a]
		}
		c.check(t)
		huts, halves, _ := towel.Clash(x)
		if a, b, _ := towel.Clash(c.new); a != huts || b != halves {
			t.Error(seed, "Clash", c, huts, halves, a, b)
		}
	}
}

// P1 and P11: the same call tells the same, whatever is called at the same time.
func TestSameCallSameResult(t *testing.T) {
	done := make(chan [6]int)
	for range 8 {
		go func() {
			s, _ := towel.All(ring(just(4, 4, 4), free(3)))
			_, set, _ := towel.Fewest(towelsT())
			whom, left, _ := towel.Search(towelsT())
			a, b, _ := towel.Clash(towelsN())
			done <- [6]int{s.Hi, set, whom, left, a, b}
		}()
	}
	for range 8 {
		if x := <-done; x != [6]int{12, 6, 0, 2, 2, 2} {
			t.Error(x)
		}
	}
}
