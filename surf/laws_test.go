package surf_test

import (
	"math/bits"
	"slices"
	"testing"

	"dipworks/api"
	"dipworks/surf"
)

// P4.1 to P4.6, of many surfs, against all truths.
func TestAgainstAllTruths(t *testing.T) {
	kinds := map[int]int{}
	for seed := range uint64(400) {
		r := source(seed)
		s := some(r, r.IntN(api.SurfHours+1), from(r, 1, 3), 500)
		all := truths(s)
		checkDepths(t, s, all)
		for n, h := range s.Huts {
			list := lives(s, h, all)
			checkRows(t, s, n, list)
			checkFloats(t, s, n, list)
			kinds[lost(list)]++
			if x, e := surf.Lost(s, n); x != lost(list) || e != api.OK {
				t.Error(seed, "Lost", s, n, x, e, lost(list))
			}
			if x, e := surf.Brake(s, n); x != brake(s, h, all) || e != api.OK {
				t.Error(seed, "Brake", s, n, x, e, brake(s, h, all))
			}
			if x, e := surf.Floor(s, n); x != floor(s, h, all) || e != api.OK {
				t.Error(seed, "Floor", s, n, x, e, floor(s, h, all))
			}
		}
	}
	for _, kind := range []int{api.SurfNever, api.SurfPerhaps, api.SurfAlways} {
		if kinds[kind] < 40 {
			t.Error("the surfs do not test all cases", kinds)
		}
	}
}

func checkDepths(t *testing.T, s api.Surf, all []truth) {
	for hour := range s.Water {
		for row := range s.Rows {
			want := span(depth(s, all[0], hour, row), depth(s, all[0], hour, row))
			for _, x := range all {
				want = span(min(want.Lo, depth(s, x, hour, row)), max(want.Hi, depth(s, x, hour, row)))
			}
			if d, e := surf.Depth(s, hour, row); d != want || e != api.OK {
				t.Error("Depth", s, hour, row, d, e, want)
			}
		}
	}
}

func checkRows(t *testing.T, s api.Surf, n int, list []life) {
	for hour := range s.Water {
		rows, gone := places(list, hour)
		if x, is, e := surf.Rows(s, n, hour); x != rows || is != gone || e != api.OK {
			t.Error("Rows", s, n, hour, x, is, e, rows, gone)
		}
	}
}

func checkFloats(t *testing.T, s api.Surf, n int, list []life) {
	surely, perhaps := floating(list, len(s.Water))
	if a, b, e := surf.Floats(s, n); a != surely || b != perhaps || e != api.OK {
		t.Error("Floats", s, n, a, b, e, surely, perhaps)
	}
	hour, e := surf.Before(s, n)
	if perhaps == 0 && (hour != 0 || e != api.ErrNone) || perhaps != 0 && (hour != bits.TrailingZeros(uint(perhaps)) || e != api.OK) {
		t.Error("Before", s, n, hour, e, perhaps)
	}
}

// P4.7: of many surfs, against all lists of hours.
func TestSaveAgainstAllLists(t *testing.T) {
	leavesSome, savesSome := 0, 0
	for seed := range uint64(1000) {
		r := source(1000 + seed)
		hours := r.IntN(api.SurfHours - 1)
		if seed%100 == 0 {
			hours = api.SurfHours
		}
		s := rising(hours)
		for range api.SurfHuts - r.IntN(3)*r.IntN(3) {
			s.Huts = append(s.Huts, hut(r.IntN(hours+2), r.IntN(11), 0))
		}
		if seed%3 == 0 {
			s = some(r, hours, len(s.Huts), 300)
		}
		many := []int{0, 1, 1, 1, 2, 3}[r.IntN(6)]
		list, left, e := surf.Save(s, many)
		want, leaves := save(firsts(s), hours, many)
		if !slices.Equal(list, want) || left != leaves || e != api.OK {
			t.Error(seed, "Save", s, many, list, left, e, want, leaves)
		}
		if left != 0 {
			leavesSome++
		}
		if slices.ContainsFunc(list, func(hour int) bool { return hour > 0 }) {
			savesSome++
		}
	}
	if leavesSome < 200 || leavesSome > 800 || savesSome < 150 {
		t.Error("the surfs do not test all cases", leavesSome, savesSome)
	}
}

// firsts are the first hours in which the huts can float, or -1, by all truths.
func firsts(s api.Surf) (list []int) {
	all := truths(s)
	for _, h := range s.Huts {
		_, perhaps := floating(lives(s, h, all), len(s.Water))
		if perhaps == 0 {
			list = append(list, -1)
		} else {
			list = append(list, bits.TrailingZeros(uint(perhaps)))
		}
	}
	return list
}

// P4.9 and P2: what is true is told, also of surfs of more truths than can be looked at.
func TestWhatIsTrueIsTold(t *testing.T) {
	for seed := range uint64(300) {
		r := source(2000 + seed)
		s := some(r, r.IntN(api.SurfHours+1), r.IntN(api.SurfHuts+1), 1<<40)
		for range 5 {
			x := sample(r, s)
			for n, h := range s.Huts {
				checkTrue(t, s, n, x, lifeOf(s, h, x))
			}
			checkDrawnIn(t, s, r.IntN(api.SurfHuts+1), x)
		}
	}
}

// checkTrue fails if something is told of a hut that is not so in a truth.
func checkTrue(t *testing.T, s api.Surf, n int, x truth, l life) {
	surely, perhaps, _ := surf.Floats(s, n)
	for hour, row := range l.rows {
		rows, gone, _ := surf.Rows(s, n, hour)
		if row < 0 && !gone || row >= 0 && rows>>row&1 == 0 {
			t.Error("Rows", s, n, x, hour, rows, gone)
		}
		if l.floats[hour] && perhaps>>hour&1 == 0 || !l.floats[hour] && surely>>hour&1 == 1 {
			t.Error("Floats", s, n, x, hour, surely, perhaps)
		}
		for row := range s.Rows {
			if d, _ := surf.Depth(s, hour, row); depth(s, x, hour, row) < d.Lo || depth(s, x, hour, row) > d.Hi {
				t.Error("Depth", s, x, hour, row, d)
			}
		}
	}
	if is, _ := surf.Lost(s, n); is == api.SurfNever && l.lost() || is == api.SurfAlways && !l.lost() {
		t.Error("Lost", s, n, x, is)
	}
	first, e := surf.Before(s, n)
	if at := slices.Index(l.floats, true); at >= 0 && (e != api.OK || at < first) {
		t.Error("Before", s, n, x, first, e)
	}
	h := s.Huts[n]
	h.Brake, _ = surf.Brake(s, n)
	if lifeOf(s, h, x).lost() {
		t.Error("Brake", s, n, x, h.Brake)
	}
	h = s.Huts[n]
	h.Floor, _ = surf.Floor(s, n)
	if slices.Contains(lifeOf(s, h, x).floats, true) {
		t.Error("Floor", s, n, x, h.Floor)
	}
}

// checkDrawnIn fails if a hut that is drawn in as is told has floated before in a truth, or too many are in an hour, or one is neither drawn in nor left that floats.
func checkDrawnIn(t *testing.T, s api.Surf, many int, x truth) {
	list, left, e := surf.Save(s, many)
	if len(list) != len(s.Huts) || left>>len(s.Huts) != 0 || e != api.OK {
		t.Error("Save", s, many, list, left, e)
		return
	}
	drawn := map[int]int{}
	for n, hour := range list {
		l := lifeOf(s, s.Huts[n], x)
		if hour < 0 {
			if left>>n&1 == 0 && slices.Contains(l.floats, true) {
				t.Error("Save", s, many, x, n, "is forgotten", list, left)
			}
			continue
		}
		drawn[hour]++
		if slices.Contains(l.floats[:hour+1], true) || left>>n&1 == 1 || drawn[hour] > many {
			t.Error("Save", s, many, x, n, list, left)
		}
	}
}

// P4.9: if it is known how high water and waves are all is exact.
func TestAllIsKnown(t *testing.T) {
	for seed := range uint64(300) {
		r := source(3000 + seed)
		s := some(r, r.IntN(api.SurfHours+1), r.IntN(api.SurfHuts+1), 1<<40)
		x := sample(r, s)
		s = known(s, x)
		for n, h := range s.Huts {
			l := lifeOf(s, h, x)
			for hour, row := range l.rows {
				rows, gone, e := surf.Rows(s, n, hour)
				if gone != (row < 0) || row < 0 && rows != 0 || row >= 0 && rows != 1<<row || e != api.OK {
					t.Error(seed, "Rows", s, n, hour, rows, gone, e)
				}
				if d, e := surf.Depth(s, hour, 0); d.Lo != d.Hi || e != api.OK {
					t.Error(seed, "Depth", s, hour, d, e)
				}
			}
			if a, b, e := surf.Floats(s, n); a != b || e != api.OK {
				t.Error(seed, "Floats", s, n, a, b, e)
			}
			if is, e := surf.Lost(s, n); is == api.SurfPerhaps || (is == api.SurfAlways) != l.lost() || e != api.OK {
				t.Error(seed, "Lost", s, n, is, e)
			}
		}
	}
}

// P2 and P4.9: if water and waves are known better nothing is told less exactly.
func TestKnownBetter(t *testing.T) {
	for seed := range uint64(300) {
		r := source(4000 + seed)
		s := some(r, from(r, 1, api.SurfHours), from(r, 1, api.SurfHuts), 1<<40)
		x := sample(r, s)
		b := s
		b.Water, b.Waves = slices.Clone(s.Water), slices.Clone(s.Waves)
		for hour := range s.Water {
			if r.IntN(2) == 0 {
				b.Water[hour] = span(from(r, s.Water[hour].Lo, x.water[hour]), from(r, x.water[hour], s.Water[hour].Hi))
			}
			if r.IntN(2) == 0 {
				b.Waves[hour] = span(from(r, s.Waves[hour].Lo, x.waves[hour]), from(r, x.waves[hour], s.Waves[hour].Hi))
			}
		}
		for n := range s.Huts {
			noLess(t, s, b, n)
			noWorse(t, s, b, n)
		}
	}
}

// noLess fails if of the better surf something is told of a hut less exactly.
func noLess(t *testing.T, s, b api.Surf, n int) {
	for hour := range s.Water {
		rows, gone, _ := surf.Rows(s, n, hour)
		if better, is, e := surf.Rows(b, n, hour); better&^rows != 0 || is && !gone || e != api.OK {
			t.Error("Rows", s, b, n, hour, rows, gone, better, is, e)
		}
		d, _ := surf.Depth(s, hour, s.Huts[n].Row)
		if better, e := surf.Depth(b, hour, s.Huts[n].Row); better.Lo < d.Lo || better.Hi > d.Hi || e != api.OK {
			t.Error("Depth", s, b, n, hour, d, better, e)
		}
	}
	surely, perhaps, _ := surf.Floats(s, n)
	if x, y, e := surf.Floats(b, n); surely&^x != 0 || y&^perhaps != 0 || e != api.OK {
		t.Error("Floats", s, b, n, surely, perhaps, x, y, e)
	}
	is, _ := surf.Lost(s, n)
	if better, e := surf.Lost(b, n); is != api.SurfPerhaps && better != is || e != api.OK {
		t.Error("Lost", s, b, n, is, better, e)
	}
}

// noWorse fails if with the other surf a hut has to be drawn in sooner, or needs more than before, or fewer huts are saved. (What is told may be less exact.)
func noWorse(t *testing.T, s, b api.Surf, n int) {
	hour, e := surf.Before(s, n)
	if x, f := surf.Before(b, n); e == api.ErrNone && f != api.ErrNone || f == api.OK && x < hour {
		t.Error("Before", s, b, n, hour, e, x, f)
	}
	for many := range 3 {
		_, left, _ := surf.Save(s, many)
		if _, x, f := surf.Save(b, many); bits.OnesCount(uint(x)) > bits.OnesCount(uint(left)) || f != api.OK {
			t.Error("Save", s, b, many, left, x, f)
		}
	}
	for i, f := range []func(api.Surf, int) (int, api.Errno){surf.Brake, surf.Floor} {
		height, _ := f(s, n)
		if x, e := f(b, n); x > height || e != api.OK {
			t.Error("height", i, s, b, n, height, x, e)
		}
	}
}

// P4.9: with less water, lower waves, a higher floor, or a better brake, and farther in, a hut is lost in no truth in which it was not, and has to be drawn in no sooner.
func TestLessDanger(t *testing.T) {
	for seed := range uint64(400) {
		r := source(5000 + seed)
		s := some(r, r.IntN(api.SurfHours+1), from(r, 1, api.SurfHuts), 1<<40)
		n := r.IntN(len(s.Huts))
		b := s
		b.Water, b.Waves, b.Huts = slices.Clone(s.Water), slices.Clone(s.Waves), slices.Clone(s.Huts)
		less := 1 + r.IntN(3)
		switch seed % 5 {
		case 0:
			lower(b.Water, less)
		case 1:
			lower(b.Waves, less)
		case 2:
			b.Huts[n].Floor = min(s.Huts[n].Floor+less, api.SurfFloor)
		case 3:
			b.Huts[n].Brake = min(s.Huts[n].Brake+less, api.SurfWaves)
		case 4:
			b.Huts[n].Row = min(s.Huts[n].Row+less, s.Rows-1)
		}
		noWorse(t, s, b, n)
		is, _ := surf.Lost(s, n)
		if x, e := surf.Lost(b, n); x > is || e != api.OK {
			t.Error(seed, "Lost", s, b, n, is, x, e)
		}
		b.Huts[n].Brake = api.SurfWaves
		if x, e := surf.Lost(b, n); x != api.SurfNever || e != api.OK {
			t.Error(seed, "the best brake", s, n, x, e)
		}
		b.Huts[n].Floor = api.SurfFloor
		if x, e := surf.Before(b, n); x != 0 || e != api.ErrNone {
			t.Error(seed, "the highest floor", s, n, x, e)
		}
	}
}

// lower lowers spans, but not below 0.
func lower(list []api.Span, less int) {
	for i, s := range list {
		list[i] = span(max(0, s.Lo-less), max(0, s.Hi-less))
	}
}

// P4.6: with the least height a hut is safe, and with the next lower one it is not; what it has now makes no difference.
func TestLeastHeights(t *testing.T) {
	for seed := range uint64(300) {
		r := source(6000 + seed)
		s := some(r, r.IntN(api.SurfHours+1), 1, 1<<40)
		height, _ := surf.Brake(s, 0)
		b := s
		b.Huts = slices.Clone(s.Huts)
		for b.Huts[0].Brake = range api.SurfWaves + 1 {
			if x, e := surf.Brake(b, 0); x != height || e != api.OK {
				t.Error(seed, "Brake", b, x, e, height)
			}
			if is, e := surf.Lost(b, 0); (is == api.SurfNever) != (b.Huts[0].Brake >= height) || e != api.OK {
				t.Error(seed, "Lost", b, is, e, height)
			}
		}
		height, _ = surf.Floor(s, 0)
		b.Huts = slices.Clone(s.Huts)
		for b.Huts[0].Floor = range api.SurfFloor + 1 {
			if x, e := surf.Floor(b, 0); x != height || e != api.OK {
				t.Error(seed, "Floor", b, x, e, height)
			}
			if _, e := surf.Before(b, 0); (e == api.ErrNone) != (b.Huts[0].Floor >= height) {
				t.Error(seed, "Before", b, e, height)
			}
		}
	}
}

// P11: what is told of a hut does not depend on its number, or on the other huts.
func TestOrderOfHuts(t *testing.T) {
	for seed := range uint64(150) {
		r := source(7000 + seed)
		s := some(r, r.IntN(api.SurfHours+1), r.IntN(api.SurfHuts+1), 1<<40)
		other := s
		other.Huts = make([]api.SurfHut, len(s.Huts))
		number := r.Perm(len(s.Huts))
		for old, h := range s.Huts {
			other.Huts[number[old]] = h
		}
		for old, new := range number {
			alone := s
			alone.Huts = []api.SurfHut{s.Huts[old]}
			for i, f := range calls() {
				if f.uses != aHut {
					continue
				}
				a, b, c := f.tell(s, old, 0), f.tell(other, new, 0), f.tell(alone, 0, 0)
				if a != b || a != c {
					t.Error(seed, i, f.name, s, old, new, a, b, c)
				}
			}
		}
		for many := range 3 {
			_, a, e := surf.Save(s, many)
			if _, b, f := surf.Save(other, many); bits.OnesCount(uint(a)) != bits.OnesCount(uint(b)) || e != f {
				t.Error(seed, "Save", s, other, many, a, b, e, f)
			}
		}
	}
}

// P1 and P11: the same call tells the same, whatever is called at the same time.
func TestSameCallSameResult(t *testing.T) {
	s := widest()
	done := make(chan [4]int)
	for range 8 {
		go func() {
			rows, _, _ := surf.Rows(s, 0, 7)
			height, _ := surf.Floor(s, 4)
			list, left, _ := surf.Save(s, 1)
			done <- [4]int{rows, height, list[1], left}
		}()
	}
	for range 8 {
		if x := <-done; x != [4]int{63, 24, -1, 19} {
			t.Error(x)
		}
	}
}
