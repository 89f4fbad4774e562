package watch_test

import (
	"slices"
	"testing"

	"dipworks/api"
	"dipworks/watch"
)

// seen counts what random watches test.
type seen struct {
	none, one, several int
	clash, spans       map[int]int // How many finds clash, and in how many spans a watch can have stopped.
	sure, unsure       int
}

// P7.1 to P7.8, of many watches, against all that can be.
func TestAgainstAllTruths(t *testing.T) {
	n := seen{clash: map[int]int{}, spans: map[int]int{}}
	for seed := range uint64(1500) {
		w := anyWatches(source(seed))
		fits := fitting(w)
		checkNumbers(t, w, source(10000+seed))
		checkMinutes(t, w, &n)
		checkAlone(t, w, fits, &n)
		checkTruths(t, w, truths(w, fits), &n)
	}
	if n.none < 300 || n.one < 300 || n.several < 200 || n.sure < 100 || n.unsure < 300 {
		t.Error("the watches do not test all cases", n)
	}
	for many, least := range []int{0, 100, 50, 20, 10} {
		if n.clash[many] < least || n.spans[many] < 50 {
			t.Error("the watches do not test all cases", many, n)
		}
	}
}

// checkNumbers looks at Shows.
func checkNumbers(t *testing.T, w api.Watches, r interface{ IntN(int) int }) {
	for n, o := range w.Owners {
		for _, minute := range []int{r.IntN(1441), o.Set, min(1440, o.Set+r.IntN(200)), 1440} {
			if minute < o.Set {
				checkShows(t, w, n, minute, api.ErrRefuse)
				continue
			}
			var list []int
			for number := range 720 {
				if canShow(o, span(number, number), minute) {
					list = append(list, number)
				}
			}
			checkShows(t, w, n, minute, api.OK, list...)
		}
	}
}

// checkMinutes looks at Stopped.
func checkMinutes(t *testing.T, w api.Watches, n *seen) {
	for find, f := range w.Finds {
		for owner, o := range w.Owners {
			l, e := watch.Stopped(w, find, owner)
			var minutes []int
			for i, s := range l {
				if i > 0 && s.Lo <= l[i-1].Hi+1 || s.Lo > s.Hi {
					t.Error("Stopped", w, find, owner, l, e)
				}
				for m := s.Lo; m <= s.Hi; m++ {
					minutes = append(minutes, m)
				}
			}
			want := stops(o, f)
			switch {
			case !f.Stopped:
				if e != api.ErrRefuse || len(l) != 0 {
					t.Error("Stopped", w, find, owner, l, e)
				}
				continue
			case len(want) == 0:
				if e != api.ErrNone || len(l) != 0 {
					t.Error("Stopped", w, find, owner, l, e)
				}
			case e != api.OK || !slices.Equal(minutes, want):
				t.Error("Stopped", w, find, owner, l, e, want)
			}
			n.spans[len(l)]++
		}
	}
}

// checkAlone looks at Fits and Clash.
func checkAlone(t *testing.T, w api.Watches, fits []int, n *seen) {
	for find, owners := range fits {
		checkFits(t, w, find, owners)
	}
	finds := clash(w, fits)
	n.clash[size(finds)]++
	if finds == 0 {
		checkClash(t, w, 0, api.ErrNone)
	} else {
		checkClash(t, w, finds, api.OK)
	}
}

// checkTruths looks at Count, Can, Where and Sure.
func checkTruths(t *testing.T, w api.Watches, found []truth, n *seen) {
	checkCount(t, w, len(found))
	e := api.OK
	switch len(found) {
	case 0:
		e = api.ErrClash
		n.none++
	case 1:
		n.one++
	default:
		n.several++
	}
	var sure []int
	for find := range w.Finds {
		owners, last := 0, -1
		for _, x := range found {
			owners |= 1 << x[find]
			last = x[find]
		}
		checkCan(t, w, find, owners, e)
		if size(owners) > 1 {
			last = -1
			n.unsure++
		} else if len(found) > 1 {
			n.sure++
		}
		sure = append(sure, last)
	}
	if e != api.OK {
		sure = nil
	}
	checkSure(t, w, e, sure...)
	for owner := range w.Owners {
		finds, none := 0, false
		for _, x := range found {
			finds |= x.has(owner)
			none = none || x.has(owner) == 0
		}
		checkWhere(t, w, owner, finds, none, e)
	}
}

// P7.9, P2 and P8: what is true is told.
func TestWhatIsTrueIsTold(t *testing.T) {
	stopped := 0
	for seed := range uint64(600) {
		w, all := story(source(20000 + seed))
		sure, e := watch.Sure(w)
		if n, f := watch.Count(w); n < 1 || e != api.OK || f != api.OK || len(sure) != len(all) {
			t.Fatal(seed, w, all, sure, e, n, f)
		}
		checkClash(t, w, 0, api.ErrNone)
		missing := map[int]bool{}
		for n := range w.Owners {
			missing[n] = true
		}
		for find, x := range all {
			delete(missing, x.owner)
			checkTrue(t, w, find, x)
			if sure[find] != -1 && sure[find] != x.owner {
				t.Error(seed, "Sure", w, find, x, sure)
			}
			if w.Finds[find].Stopped {
				stopped++
			}
		}
		for owner := range missing {
			if _, none, e := watch.Where(w, owner); !none || e != api.OK {
				t.Error(seed, "Where", w, owner, none, e)
			}
		}
	}
	if stopped < 200 {
		t.Error("the watches test one case only", stopped)
	}
}

// checkTrue fails unless what is true of a find is told.
func checkTrue(t *testing.T, w api.Watches, find int, x lost) {
	if l, e := watch.Shows(w, x.owner, x.minute); !slices.Contains(l, shows(w.Owners[x.owner], x.gain, x.minute)) || e != api.OK {
		t.Error("Shows", w, find, x, l, e)
	}
	for name, f := range map[string]func(api.Watches, int) (int, api.Errno){"Fits": watch.Fits, "Can": watch.Can} {
		if n, e := f(w, find); n>>x.owner&1 == 0 || e != api.OK {
			t.Error(name, w, find, x, n, e)
		}
	}
	if n, _, e := watch.Where(w, x.owner); n>>find&1 == 0 || e != api.OK {
		t.Error("Where", w, find, x, n, e)
	}
	if !w.Finds[find].Stopped {
		return
	}
	l, e := watch.Stopped(w, find, x.owner)
	if e != api.OK || !slices.ContainsFunc(l, func(s api.Span) bool { return s.Lo <= x.minute && x.minute <= s.Hi }) {
		t.Error("Stopped", w, find, x, l, e)
	}
}

// P7.9: finds that clash fit fewer owners together than they are; without any one of them there is a truth.
func TestFindsThatClash(t *testing.T) {
	clashes := map[int]int{}
	for seed := range uint64(600) {
		w := anyWatches(source(30000 + seed))
		finds, e := watch.Clash(w)
		if e != api.OK {
			continue
		}
		clashes[size(finds)]++
		together := 0
		var list []api.WatchFind
		for find, f := range w.Finds {
			if finds>>find&1 == 1 {
				owners, _ := watch.Fits(w, find)
				together |= owners
				list = append(list, f)
			}
		}
		if size(together) >= size(finds) {
			t.Error(seed, "Clash", w, finds, together)
		}
		checkCount(t, watches(w.Owners, list...), 0)
		for n := range list {
			if many, e := watch.Count(watches(w.Owners, slices.Delete(slices.Clone(list), n, n+1)...)); many == 0 || e != api.OK {
				t.Error(seed, "Count without one", w, finds, n, many, e)
			}
		}
	}
	if clashes[1] < 50 || clashes[2] < 30 || clashes[3] < 10 {
		t.Error("the watches do not test all cases", clashes)
	}
}

// P7.10 and P2: with a find more no find can be anybody's whose it could not be.
func TestOneFindMore(t *testing.T) {
	none, fewer := 0, 0
	for seed := range uint64(600) {
		w := anyWatches(source(40000 + seed))
		if len(w.Finds) == 0 {
			continue
		}
		before := watches(w.Owners, w.Finds[:len(w.Finds)-1]...)
		many, _ := watch.Count(before)
		if n, e := watch.Count(w); e != api.OK || many == 0 && n != 0 {
			t.Error(seed, "Count", w, many, n, e)
		}
		for find := range before.Finds {
			fits, _ := watch.Fits(before, find)
			checkFits(t, w, find, fits)
			old, _ := watch.Can(before, find)
			now, e := watch.Can(w, find)
			if now&^old != 0 {
				t.Error(seed, "Can", w, find, old, now)
			}
			if e == api.ErrClash {
				none++
			} else if now != old {
				fewer++
			}
		}
	}
	if none < 50 || fewer < 30 {
		t.Error("the watches test one case only", none, fewer)
	}
}

// P7.10: with an owner more, or more huts of an owner, nobody loses a find.
func TestOneOwnerMore(t *testing.T) {
	more := 0
	for seed := range uint64(600) {
		r := source(50000 + seed)
		w := anyWatches(r)
		y := w
		y.Owners = slices.Clone(w.Owners)
		if n := len(w.Owners); n == 5 || n > 0 && r.IntN(2) == 0 {
			y.Owners[r.IntN(n)].Huts |= r.IntN(64)
		} else {
			y.Owners = append(y.Owners, someOwner(r, 700, 4))
		}
		before, _ := watch.Count(w)
		after, _ := watch.Count(y)
		if after < before {
			t.Error(seed, "Count", w, y, before, after)
		}
		if after > before {
			more++
		}
		for name, f := range map[string]func(api.Watches, int) (int, api.Errno){"Fits": watch.Fits, "Can": watch.Can} {
			for find := range w.Finds {
				old, _ := f(w, find)
				if n, _ := f(y, find); old&^n != 0 {
					t.Error(seed, name, w, y, find, old, n)
				}
			}
		}
		for owner := range w.Owners {
			old, none, _ := watch.Where(w, owner)
			if n, is, _ := watch.Where(y, owner); old&^n != 0 || none && !is {
				t.Error(seed, "Where", w, y, owner, old, none, n, is)
			}
		}
	}
	if more < 50 {
		t.Error("the watches test one case only", more)
	}
}

// change is watches and other ones, of which the same is told but for the new numbers of owners and of finds, and how much later minutes are.
type change struct {
	old, new      api.Watches
	owners, finds []int
	later         int
}

// renumbered is a set by new numbers.
func renumbered(old int, number []int) (set int) {
	for a, b := range number {
		set |= old >> a & 1 << b
	}
	return set
}

// check fails unless the same is told.
func (c change) check(t *testing.T) {
	n, _ := watch.Count(c.old)
	checkCount(t, c.new, n)
	for old, now := range c.finds {
		owners, _ := watch.Fits(c.old, old)
		checkFits(t, c.new, now, renumbered(owners, c.owners))
		owners, e := watch.Can(c.old, old)
		checkCan(t, c.new, now, renumbered(owners, c.owners), e)
		for a, b := range c.owners {
			l, e := watch.Stopped(c.old, old, a)
			var ends []int
			for _, s := range l {
				ends = append(ends, s.Lo+c.later, s.Hi+c.later)
			}
			checkStopped(t, c.new, now, b, e, ends...)
		}
	}
	for old, now := range c.owners {
		finds, none, e := watch.Where(c.old, old)
		checkWhere(t, c.new, now, renumbered(finds, c.finds), none, e)
		for _, minute := range []int{0, 17, 333, 700, 720} {
			l, e := watch.Shows(c.old, old, minute)
			checkShows(t, c.new, now, minute+c.later, e, l...)
		}
	}
	old, e := watch.Sure(c.old)
	sure := make([]int, len(old))
	for find, owner := range old {
		sure[c.finds[find]] = -1
		if owner != -1 {
			sure[c.finds[find]] = c.owners[owner]
		}
	}
	checkSure(t, c.new, e, sure...)
	finds, e := watch.Clash(c.old)
	m, f := watch.Clash(c.new)
	if size(m) != size(finds) || e != f || slices.IsSorted(c.finds) && m != finds {
		t.Error("Clash", c, finds, e, m, f)
	}
}

// unmoved is numbers as they are.
func unmoved(many int) (list []int) {
	for n := range many {
		list = append(list, n)
	}
	return list
}

// moved is a list by the new numbers of its elements.
func moved[T any](list []T, number []int) []T {
	l := make([]T, len(list))
	for a, b := range number {
		l[b] = list[a]
	}
	return l
}

// P7.10 and P11: if owners, finds or huts are numbered otherwise only numbers change.
func TestNumberedOtherwise(t *testing.T) {
	for seed := range uint64(300) {
		r := source(60000 + seed)
		w := anyWatches(r)
		owners, finds, huts := unmoved(len(w.Owners)), unmoved(len(w.Finds)), unmoved(6)
		switch seed % 3 {
		case 0:
			owners = r.Perm(len(owners))
		case 1:
			finds = r.Perm(len(finds))
		default:
			huts = r.Perm(6)
		}
		y := watches(moved(w.Owners, owners), moved(w.Finds, finds)...)
		for n := range y.Owners {
			y.Owners[n].Huts = renumbered(y.Owners[n].Huts, huts)
		}
		for n := range y.Finds {
			y.Finds[n].Hut = huts[y.Finds[n].Hut]
		}
		change{w, y, owners, finds, 0}.check(t)
	}
}

// P7.10: if all is 720 minutes later nothing changes but the minutes at which watches stopped.
func TestAllLater(t *testing.T) {
	stopped := 0
	for seed := range uint64(300) {
		w := anyWatches(source(70000 + seed))
		for n := range w.Owners {
			w.Owners[n].Set %= 721
		}
		for n := range w.Finds {
			w.Finds[n].Minute %= 721
		}
		y := watches(slices.Clone(w.Owners), slices.Clone(w.Finds)...)
		for n := range y.Owners {
			y.Owners[n].Set += 720
		}
		for n := range y.Finds {
			y.Finds[n].Minute += 720
			if l, _ := watch.Stopped(w, n, 0); len(l) > 0 {
				stopped++
			}
		}
		change{w, y, unmoved(len(w.Owners)), unmoved(len(w.Finds)), 720}.check(t)
	}
	if stopped < 20 {
		t.Error("the watches test one case only", stopped)
	}
}

// P1 and P11: the same call tells the same, whatever is called at the same time.
func TestSameCallSameResult(t *testing.T) {
	done := make(chan [5]int)
	for range 8 {
		go func() {
			many, _ := watch.Count(watchesW())
			owners, _ := watch.Can(watchesW(), 1)
			finds, _, _ := watch.Where(watchesW(), 0)
			sure, _ := watch.Sure(watchesX())
			clash, _ := watch.Clash(watchesY())
			done <- [5]int{many, owners, finds, sure[0], clash}
		}()
	}
	for range 8 {
		if x := <-done; x != [5]int{3, 5, 3, 1, 6} {
			t.Error(x)
		}
	}
}
