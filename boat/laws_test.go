package boat_test

import (
	"maps"
	"math/rand/v2"
	"slices"
	"testing"

	"dipworks/api"
	"dipworks/boat"
)

// seen counts what random boats test.
type seen struct {
	clash, truths int
	wrong         [5]int
	speed         [5]int // 4: none
	broke         [3]int
	met           [4]int // 0: in none; 1: at once; 2: later; 3: one has no truth
	who           [4]int // 0: one has no truth; 1: nobody; 2: perhaps; 3: surely
}

// check fails unless each case was tested so often.
func (n seen) check(t *testing.T, least int) {
	t.Helper()
	for what, counts := range map[string][]int{"truths": {n.clash, n.truths}, "wrong": n.wrong[:4], "speed": n.speed[:], "broke": n.broke[:], "met": n.met[:], "who": n.who[:]} {
		if slices.Min(counts) < least {
			t.Error("the boats do not test all cases", what, counts)
		}
	}
}

// P12.1 to P12.7, of many boats, against all truths.
func TestAgainstAllTruths(t *testing.T) {
	var n seen
	for seed := range uint64(1500) {
		checkAll(t, anyBoats(source(seed), small()), byTruths, &n)
	}
	n.check(t, 30)
}

// P12.1 to P12.7, of boats with as many places and minutes as there may be, by states that follow one another.
func TestLargeBoats(t *testing.T) {
	var n seen
	for seed := range uint64(250) {
		checkAll(t, anyBoats(source(2000+seed), large()), byStates, &n)
	}
	n.check(t, 5)
	for speed := range 4 {
		b := boats(8, 6, speed, 12, list(at(0, 0, 5), around(4, span(2, 6), span(0, 3)), at(12, 7, 5)), nil, list(around(6, span(0, 7), span(2, 2))), list(at(12, 7, 0)))
		checkAll(t, b, byStates, &n)
	}
}

// Both ways in which the tests find truths find the same.
func TestStatesAreTruths(t *testing.T) {
	for seed := range uint64(300) {
		b := anyBoats(source(4000+seed), small())
		for one := range b.Seen {
			k, other := byTruths(b, one), byStates(b, one)
			if !slices.Equal(k.can, other.can) || k.nearest != other.nearest || isPossible(b, b.Seen[one], b.Speed) != (k.nearest != 0) {
				t.Error(seed, b, one, k, other)
			}
		}
	}
}

// checkAll looks at all functions.
func checkAll(t *testing.T, b api.Boats, of func(b api.Boats, one int) known, n *seen) {
	t.Helper()
	var all []known
	for one := range b.Seen {
		k := of(b, one)
		all = append(all, k)
		checkFast(t, b, one, n)
		if k.nearest == 0 {
			n.clash++
			set := wrong(b, one)
			n.wrong[size(set)]++
			checkWrong(t, b, one, set, api.OK)
			checkClash(t, b, one)
			continue
		}
		n.truths++
		n.wrong[0]++
		checkWrong(t, b, one, 0, api.ErrNone)
		checkOne(t, b, one, k, n)
	}
	for one := range all {
		for two := range all {
			checkBoth(t, b, one, two, all, n)
		}
	}
	checkPlaces(t, b, all, n)
}

// checkFast looks at Speed.
func checkFast(t *testing.T, b api.Boats, one int, n *seen) {
	t.Helper()
	for speed := range 4 {
		if isPossible(b, b.Seen[one], speed) {
			n.speed[speed]++
			checkSpeed(t, b, one, speed, api.OK)
			return
		}
	}
	n.speed[4]++
	checkSpeed(t, b, one, 0, api.ErrNone)
}

// checkClash looks at what there is no result of if a boat has no truth.
func checkClash(t *testing.T, b api.Boats, one int) {
	t.Helper()
	for minute := range b.Last + 1 {
		checkCan(t, b, one, minute, 0, api.ErrClash)
		checkRows(t, b, one, minute, span(0, 0), api.ErrClash)
	}
	checkNearest(t, b, one, span(0, 0), api.ErrClash)
	for row := range b.Deep + 1 {
		checkBroke(t, b, one, row, 0, api.ErrClash)
	}
}

// checkOne looks at what is told of one boat.
func checkOne(t *testing.T, b api.Boats, one int, k known, n *seen) {
	t.Helper()
	for minute, places := range k.can {
		checkCan(t, b, one, minute, places, api.OK)
		checkRows(t, b, one, minute, rows(b, places), api.OK)
	}
	checkNearest(t, b, one, ends(k.nearest), api.OK)
	for row := range b.Deep + 1 {
		broke := api.BoatPerhaps
		if less := k.nearest & (1<<row - 1); less == k.nearest {
			broke = api.BoatAlways
		} else if less == 0 {
			broke = api.BoatNever
		}
		n.broke[broke]++
		checkBroke(t, b, one, row, broke, api.OK)
	}
}

// checkBoth looks at what is told of two boats.
func checkBoth(t *testing.T, b api.Boats, one, two int, all []known, n *seen) {
	t.Helper()
	if all[one].nearest == 0 || all[two].nearest == 0 {
		n.met[3]++
		checkMet(t, b, one, two, 0, api.ErrClash)
		return
	}
	for minute, places := range all[one].can {
		if places&all[two].can[minute] != 0 {
			n.met[1+min(minute, 1)]++
			checkMet(t, b, one, two, minute, api.OK)
			return
		}
	}
	n.met[0]++
	checkMet(t, b, one, two, 0, api.ErrNone)
}

// checkPlaces looks at Who.
func checkPlaces(t *testing.T, b api.Boats, all []known, n *seen) {
	t.Helper()
	for minute := range b.Last + 1 {
		for place := range b.Wide * b.Deep {
			surely, perhaps := 0, 0
			for one, k := range all {
				if k.nearest == 0 {
					n.who[0]++
					checkWho(t, b, minute, place, 0, 0, api.ErrClash)
					return
				}
				if has(k.can[minute], place) {
					perhaps |= 1 << one
				}
				if k.can[minute] == 1<<place {
					surely |= 1 << one
				}
			}
			n.who[1+min(1, perhaps)+min(1, surely)]++
			checkWho(t, b, minute, place, surely, perhaps, api.OK)
		}
	}
}

// P12.9 and P2: what is true is told, and what was right is not said to be wrong.
func TestWhatIsTrueIsTold(t *testing.T) {
	met, broke := 0, 0
	for seed := range uint64(600) {
		b, truly := story(source(10000+seed), large())
		for one, x := range truly {
			checkWrong(t, b, one, 0, api.ErrNone)
			if n, e := boat.Speed(b, one); e != api.OK || n > b.Speed {
				t.Error(seed, "Speed", b, one, n, e)
			}
			near, e := boat.Nearest(b, one)
			if e != api.OK || !isIn(nearest(b, x), near) {
				t.Error(seed, "Nearest", b, x, near, e)
			}
			for row := range b.Deep + 1 {
				is := nearest(b, x) < row
				if n, e := boat.Broke(b, one, row); e != api.OK || is && n == api.BoatNever || !is && n == api.BoatAlways {
					t.Error(seed, "Broke", b, x, row, n, e)
				} else if n != api.BoatPerhaps {
					broke++
				}
			}
			checkTrueMinutes(t, b, one, truly)
			for two, y := range truly {
				for minute, place := range x {
					if place != y[minute] {
						continue
					}
					met++
					if n, e := boat.Met(b, one, two); e != api.OK || n > minute {
						t.Error(seed, "Met", b, x, y, n, e)
					}
				}
			}
		}
	}
	if met < 500 || broke < 500 {
		t.Error("the boats test too little", met, broke)
	}
}

// checkTrueMinutes fails unless what is told of each minute can be true.
func checkTrueMinutes(t *testing.T, b api.Boats, one int, truly [][]int) {
	t.Helper()
	for minute, place := range truly[one] {
		if n, e := boat.Can(b, one, minute); e != api.OK || !has(n, place) {
			t.Error("Can", b, one, minute, place, n, e)
		}
		if s, e := boat.Rows(b, one, minute); e != api.OK || !isIn(place/b.Wide, s) {
			t.Error("Rows", b, one, minute, place, s, e)
		}
		surely, perhaps, e := boat.Who(b, minute, place)
		if e != api.OK || !has(perhaps, one) {
			t.Error("Who", b, one, minute, place, perhaps, e)
		}
		for two, x := range truly {
			if has(surely, two) && x[minute] != place {
				t.Error("Who", b, two, minute, place, surely)
			}
		}
	}
}

// P12.9: from each place that is told one that is told for the next minute, and for the one before, is at most Speed steps away.
func TestWayFromEachPlace(t *testing.T) {
	looked := 0
	for seed := range uint64(400) {
		b := anyBoats(source(15000+seed), large())
		for one := range b.Seen {
			can := cans(b, one)
			for minute, places := range can {
				for place := range b.Wide * b.Deep {
					if !has(places, place) {
						continue
					}
					looked++
					to := set(goes(b, place, b.Speed)...)
					if minute > 0 && can[minute-1]&to == 0 || minute < b.Last && can[minute+1]&to == 0 || !isRight(b, b.Seen[one], minute, place) {
						t.Error(seed, b, one, minute, place, can)
					}
				}
			}
		}
	}
	if looked < 5000 {
		t.Error("the boats test too little", looked)
	}
}

// cans is where a boat can be in each minute: nowhere if it has no truth.
func cans(b api.Boats, one int) (all []int) {
	for minute := range b.Last + 1 {
		n, _ := boat.Can(b, one, minute)
		all = append(all, n)
	}
	return all
}

// cloned is the same boats in new memory.
func cloned(b api.Boats) api.Boats {
	b.Seen = slices.Clone(b.Seen)
	for one, seen := range b.Seen {
		b.Seen[one] = slices.Clone(seen)
	}
	return b
}

// exact is some changes after which each boat is known at least as well: less speed, a sighting more, or a narrower one.
func exact(r *rand.Rand, b api.Boats) (c api.Boats, what string) {
	c = cloned(b)
	one := r.IntN(len(c.Seen))
	seen := c.Seen[one]
	switch n := r.IntN(len(seen) + 1); r.IntN(3) {
	case 0:
		if c.Speed > 0 {
			c.Speed--
			what = "speed"
		}
	case 1:
		if len(seen) < 5 {
			more := around(from(r, 0, c.Last), some(r, c.Wide-1), some(r, c.Deep-1))
			if r.IntN(2) == 0 {
				more.Columns = span(0, c.Wide-1)
			}
			if r.IntN(2) == 0 {
				more.Rows = span(0, c.Deep-1)
			}
			n = slices.IndexFunc(append(seen, api.BoatSeen{Minute: 13}), func(s api.BoatSeen) bool { return s.Minute > more.Minute })
			c.Seen[one] = slices.Insert(seen, n, more)
			what = "more"
		}
	default:
		if n < len(seen) {
			for _, s := range []*api.Span{&seen[n].Columns, &seen[n].Rows} {
				s.Lo = from(r, s.Lo, s.Hi)
				s.Hi = from(r, s.Lo, s.Hi)
			}
			what = "narrower"
		}
	}
	return c, what
}

// P12.9 and P2: with less speed, a sighting more or a narrower one nothing is told less exactly.
func TestMoreIsKnown(t *testing.T) {
	tested := map[string]int{}
	for seed := range uint64(3000) {
		r := source(20000 + seed)
		b := anyBoats(r, large())
		c, what := exact(r, b)
		for one := range b.Seen {
			if notLessExact(t, b, c, one) {
				tested[what]++
			}
			if what != "more" {
				continue
			}
			before, _ := boat.Wrong(b, one)
			after, _ := boat.Wrong(c, one)
			if size(after) < size(before) || size(after) > size(before)+1 {
				t.Error(seed, "Wrong", b, c, one, before, after)
			}
		}
	}
	if len(tested) != 3 || slices.Min(slices.Collect(maps.Values(tested))) < 100 {
		t.Error("the boats do not test all cases", tested)
	}
}

// notLessExact fails if something is told of a boat less exactly; it returns whether fewer places are told.
func notLessExact(t *testing.T, b, c api.Boats, one int) (fewer bool) {
	t.Helper()
	before, after := cans(b, one), cans(c, one)
	for minute, places := range after {
		if places&^before[minute] != 0 {
			t.Error("Can", b, c, one, minute, before, after)
		}
		fewer = fewer || places != before[minute]
	}
	speed, e := boat.Speed(b, one)
	if n, d := boat.Speed(c, one); d == api.OK && (n < speed || e != api.OK) {
		t.Error("Speed", b, c, one, speed, e, n, d)
	}
	sightings, _ := boat.Wrong(b, one)
	if n, _ := boat.Wrong(c, one); size(n) < size(sightings) {
		t.Error("Wrong", b, c, one, sightings, n)
	}
	near, _ := boat.Nearest(b, one)
	s, e := boat.Nearest(c, one)
	if e != api.OK {
		checkClash(t, c, one)
		return fewer
	}
	if s.Lo < near.Lo || near.Hi < s.Hi {
		t.Error("Nearest", b, c, one, near, s)
	}
	for row := range b.Deep + 1 {
		if n, _ := boat.Broke(b, one, row); n != api.BoatPerhaps {
			checkBroke(t, c, one, row, n, api.OK)
		}
	}
	return fewer
}

// mirrored is the same boats if the columns are numbered from the other end.
func mirrored(b api.Boats) api.Boats {
	b = cloned(b)
	for _, seen := range b.Seen {
		for n, s := range seen {
			seen[n].Columns = span(b.Wide-1-s.Columns.Hi, b.Wide-1-s.Columns.Lo)
		}
	}
	return b
}

// reversed is the same boats if all minutes are turned round.
func reversed(b api.Boats) api.Boats {
	b = cloned(b)
	for _, seen := range b.Seen {
		slices.Reverse(seen)
		for n := range seen {
			seen[n].Minute = b.Last - seen[n].Minute
		}
	}
	return b
}

// P12.9: numbered from the other end, or turned round, all is the same.
func TestTurnedRound(t *testing.T) {
	for seed := range uint64(500) {
		b := anyBoats(source(30000+seed), large())
		across, back := mirrored(b), reversed(b)
		for one := range b.Seen {
			can := cans(b, one)
			for minute, places := range cans(across, one) {
				for place := range b.Wide * b.Deep {
					column, row := place%b.Wide, place/b.Wide
					if has(places, place) != has(can[minute], row*b.Wide+b.Wide-1-column) {
						t.Error(seed, "mirrored", b, one, minute, place, can)
					}
				}
			}
			for minute, places := range cans(back, one) {
				if places != can[b.Last-minute] {
					t.Error(seed, "reversed", b, one, minute, places, can)
				}
			}
			sightings, e := boat.Wrong(b, one)
			checkWrong(t, across, one, sightings, e)
			if n, d := boat.Wrong(back, one); size(n) != size(sightings) || d != e {
				t.Error(seed, "reversed", b, one, n, d, sightings, e)
			}
			for _, c := range []api.Boats{across, back} {
				near, e := boat.Nearest(b, one)
				checkNearest(t, c, one, near, e)
				speed, e := boat.Speed(b, one)
				checkSpeed(t, c, one, speed, e)
			}
			for two := range b.Seen {
				minute, e := boat.Met(b, one, two)
				checkMet(t, across, one, two, minute, e)
				if _, d := boat.Met(back, one, two); d != e {
					t.Error(seed, "reversed", b, one, two, e, d)
				}
			}
		}
	}
}

// P12.9: what is told of a boat does not depend on the others. P11: nor on which number it has.
func TestOtherBoats(t *testing.T) {
	for seed := range uint64(400) {
		r := source(40000 + seed)
		b := anyBoats(r, large())
		one := r.IntN(len(b.Seen))
		alone := b
		alone.Seen = [][]api.BoatSeen{b.Seen[one]}
		for minute, places := range cans(alone, 0) {
			_, e := boat.Can(alone, 0, minute)
			checkCan(t, b, one, minute, places, e)
			rows, e := boat.Rows(alone, 0, minute)
			checkRows(t, b, one, minute, rows, e)
		}
		near, e := boat.Nearest(alone, 0)
		checkNearest(t, b, one, near, e)
		speed, e := boat.Speed(alone, 0)
		checkSpeed(t, b, one, speed, e)
		sightings, e := boat.Wrong(alone, 0)
		checkWrong(t, b, one, sightings, e)
		for row := range b.Deep + 1 {
			n, e := boat.Broke(alone, 0, row)
			checkBroke(t, b, one, row, n, e)
		}
		for two := range b.Seen {
			pair := b
			pair.Seen = [][]api.BoatSeen{b.Seen[two], b.Seen[one]}
			minute, e := boat.Met(pair, 1, 0)
			checkMet(t, pair, 0, 1, minute, e)
			checkMet(t, b, one, two, minute, e)
		}
	}
}

// Sightings of one minute can come in any order, and the same one twice: P11.
func TestOrderOfSightings(t *testing.T) {
	for seed := range uint64(400) {
		r := source(50000 + seed)
		b := anyBoats(r, large())
		c := cloned(b)
		for one, seen := range c.Seen {
			for n := range seen {
				seen[n].Minute = b.Last / 2
				b.Seen[one][n].Minute = b.Last / 2
			}
			slices.Reverse(seen)
			if n := len(seen); n > 0 && n < 5 {
				c.Seen[one] = append(seen, seen[r.IntN(n)])
			}
			if can := cans(b, one); !slices.Equal(can, cans(c, one)) {
				t.Error(seed, b, c, one, can)
			}
			near, e := boat.Nearest(b, one)
			checkNearest(t, c, one, near, e)
			speed, e := boat.Speed(b, one)
			checkSpeed(t, c, one, speed, e)
			_, before := boat.Wrong(b, one)
			if _, after := boat.Wrong(c, one); after != before {
				t.Error(seed, "Wrong", b, c, one, before, after)
			}
		}
	}
}

// P1 and P11: the same call tells the same, whatever is called at the same time.
func TestSameCallSameResult(t *testing.T) {
	done := make(chan [6]int)
	for range 8 {
		go func() {
			places, _ := boat.Can(boatsB(), 0, 2)
			near, _ := boat.Nearest(boatsB(), 0)
			minute, _ := boat.Met(boatsB(), 0, 1)
			_, perhaps, _ := boat.Who(boatsB(), 6, 16)
			speed, _ := boat.Speed(boatsB(), 0)
			sightings, _ := boat.Wrong(boatsN(), 0)
			done <- [6]int{places, near.Hi, minute, perhaps, speed, sightings}
		}()
	}
	for range 8 {
		if x := <-done; x != [6]int{1847296, 3, 6, 3, 1, 4} {
			t.Error(x)
		}
	}
}
