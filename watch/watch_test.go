package watch_test

import (
	"math"
	"slices"
	"testing"

	"dipworks/api"
	"dipworks/watch"
)

func span(lo, hi int) api.Span { return api.Span{Lo: lo, Hi: hi} }

// spans are such from each number to the next one.
func spans(ends ...int) (l []api.Span) {
	for i := 0; i < len(ends); i += 2 {
		l = append(l, span(ends[i], ends[i+1]))
	}
	return l
}

func owner(set, lo, hi, huts int) api.WatchOwner {
	return api.WatchOwner{Set: set, Gain: span(lo, hi), Huts: huts}
}

// going is a find that had not stopped, wet is one that had.
func going(hut, minute, lo, hi int) api.WatchFind {
	return api.WatchFind{Hut: hut, Minute: minute, Shows: span(lo, hi)}
}

func wet(hut, minute, lo, hi int) api.WatchFind {
	f := going(hut, minute, lo, hi)
	f.Stopped = true
	return f
}

func watches(owners []api.WatchOwner, finds ...api.WatchFind) api.Watches {
	return api.Watches{Owners: owners, Finds: finds}
}

// alone is one owner, and finds.
func alone(o api.WatchOwner, finds ...api.WatchFind) api.Watches {
	return watches([]api.WatchOwner{o}, finds...)
}

// watchesW, watchesX and watchesY are those of the examples.
func watchesW() api.Watches {
	return watches([]api.WatchOwner{owner(480, 0, 0, 3), owner(480, 6, 7, 1), owner(600, -5, -5, 6)}, going(0, 600, 600, 612), going(1, 660, 655, 660))
}

func watchesX() api.Watches {
	w := watchesW()
	w.Finds = append(w.Finds, wet(2, 760, 10, 11))
	return w
}

func watchesY() api.Watches {
	w := watchesX()
	w.Finds[1].Shows = span(655, 656)
	return w
}

// inHuts is owners whose watches are right, each of whom was in some huts alone.
func inHuts(huts ...int) (l []api.WatchOwner) {
	for _, n := range huts {
		l = append(l, owner(0, 0, 0, n))
	}
	return l
}

// leftIn is right watches, found in huts.
func leftIn(huts ...int) (l []api.WatchFind) {
	for _, n := range huts {
		l = append(l, going(n, 100, 100, 100))
	}
	return l
}

func TestExamples(t *testing.T) {
	w, x, y := watchesW(), watchesX(), watchesY()
	checkShows(t, w, 0, 600, api.OK, 600)
	checkShows(t, w, 1, 600, api.OK, 612, 614)
	checkShows(t, w, 2, 660, api.OK, 655)
	checkShows(t, w, 2, 599, api.ErrRefuse)
	checkFits(t, w, 0, 3)
	checkFits(t, w, 1, 5)
	checkFits(t, y, 2, 4)
	checkStopped(t, x, 2, 2, api.OK, 742, 743)
	checkStopped(t, x, 2, 0, api.ErrNone)
	checkStopped(t, x, 0, 0, api.ErrRefuse)
	checkCount(t, w, 3)
	checkCount(t, x, 1)
	checkCount(t, y, 0)
	checkCan(t, w, 0, 3, api.OK)
	checkCan(t, x, 0, 2, api.OK)
	checkWhere(t, w, 0, 3, true, api.OK)
	checkWhere(t, x, 0, 2, false, api.OK)
	checkSure(t, w, api.OK, -1, -1)
	checkSure(t, x, api.OK, 1, 0, 2)
	checkClash(t, y, 6, api.OK)
	checkClash(t, x, 0, api.ErrNone)
}

func checkShows(t *testing.T, w api.Watches, owner, minute int, want api.Errno, list ...int) {
	t.Helper()
	if l, e := watch.Shows(w, owner, minute); !slices.Equal(l, list) || e != want {
		t.Error("Shows", w, owner, minute, l, e)
	}
}

func checkFits(t *testing.T, w api.Watches, find, owners int) {
	t.Helper()
	if n, e := watch.Fits(w, find); n != owners || e != api.OK {
		t.Error("Fits", w, find, n, e, owners)
	}
}

func checkStopped(t *testing.T, w api.Watches, find, owner int, want api.Errno, ends ...int) {
	t.Helper()
	if l, e := watch.Stopped(w, find, owner); !slices.Equal(l, spans(ends...)) || e != want {
		t.Error("Stopped", w, find, owner, l, e, ends, want)
	}
}

func checkCount(t *testing.T, w api.Watches, many int) {
	t.Helper()
	if n, e := watch.Count(w); n != many || e != api.OK {
		t.Error("Count", w, n, e, many)
	}
}

func checkCan(t *testing.T, w api.Watches, find, owners int, want api.Errno) {
	t.Helper()
	if n, e := watch.Can(w, find); n != owners || e != want {
		t.Error("Can", w, find, n, e, owners)
	}
}

func checkWhere(t *testing.T, w api.Watches, owner, finds int, none bool, want api.Errno) {
	t.Helper()
	if n, is, e := watch.Where(w, owner); n != finds || is != none || e != want {
		t.Error("Where", w, owner, n, is, e, finds, none)
	}
}

func checkSure(t *testing.T, w api.Watches, want api.Errno, owners ...int) {
	t.Helper()
	if l, e := watch.Sure(w); !slices.Equal(l, owners) || e != want {
		t.Error("Sure", w, l, e, owners)
	}
}

func checkClash(t *testing.T, w api.Watches, finds int, want api.Errno) {
	t.Helper()
	if n, e := watch.Clash(w); n != finds || e != want {
		t.Error("Clash", w, n, e, finds)
	}
}

// P7.1: what is gained is rounded down, also if it is below 0; each number comes once, the lesser ones first.
func TestShows(t *testing.T) {
	for _, x := range []struct {
		o      api.WatchOwner
		minute int
		list   []int
	}{
		// At the Set, and at the ends of the day.
		{owner(0, -10, -8, 0), 0, []int{0}}, {owner(719, 8, 10, 0), 719, []int{719}}, {owner(720, 0, 0, 0), 720, []int{0}}, {owner(721, 0, 0, 0), 721, []int{1}}, {owner(1440, 10, 10, 63), 1440, []int{0}}, {owner(1439, 0, 0, 63), 1440, []int{0}}, {owner(1439, 0, 0, 63), 1439, []int{719}},
		// A gain, rounded down.
		{owner(0, 1, 1, 0), 59, []int{59}}, {owner(0, 1, 1, 0), 60, []int{61}}, {owner(0, 1, 1, 0), 119, []int{120}}, {owner(0, 1, 1, 0), 120, []int{122}}, {owner(0, 10, 10, 0), 5, []int{5}}, {owner(0, 10, 10, 0), 6, []int{7}}, {owner(7, 7, 7, 0), 15, []int{15}}, {owner(7, 7, 7, 0), 16, []int{17}},
		// A loss, rounded down as well.
		{owner(0, -1, -1, 0), 1, []int{0}}, {owner(0, -1, -1, 0), 60, []int{59}}, {owner(0, -1, -1, 0), 61, []int{59}}, {owner(0, -1, -1, 0), 120, []int{118}}, {owner(0, -1, -1, 0), 121, []int{118}}, {owner(30, -10, -10, 0), 36, []int{35}}, {owner(30, -10, -10, 0), 37, []int{35}}, {owner(30, -10, -10, 0), 42, []int{40}},
		// Several gains, of which some show the same.
		{owner(0, 0, 2, 0), 29, []int{29}}, {owner(0, 0, 2, 0), 30, []int{30, 31}}, {owner(0, 0, 2, 0), 59, []int{59, 60}}, {owner(0, 0, 2, 0), 60, []int{60, 61, 62}}, {owner(0, -1, 1, 0), 30, []int{29, 30}}, {owner(0, -1, 1, 0), 60, []int{59, 60, 61}}, {owner(0, -2, 0, 0), 30, []int{29, 30}}, {owner(0, -2, 0, 0), 31, []int{29, 30, 31}}, {owner(100, 3, 4, 0), 220, []int{226, 228}},
		// Over the end of the dial, from one side and from the other.
		{owner(660, 0, 2, 0), 719, []int{0, 719}}, {owner(600, 1, 2, 0), 719, []int{0, 2}}, {owner(660, -2, 0, 0), 720, []int{0, 718, 719}}, {owner(660, -1, 1, 0), 720, []int{0, 1, 719}}, {owner(1380, -1, 1, 0), 1440, []int{0, 1, 719}}, {owner(1320, -2, -1, 0), 1440, []int{716, 718}}, {owner(0, -10, -8, 0), 6, []int{5}}, {owner(715, -10, -8, 0), 721, []int{0}}, {owner(713, -10, -8, 0), 720, []int{718, 719}}, {owner(713, -10, -8, 0), 719, []int{718}},
		// As much as there can be.
		{owner(0, 8, 10, 0), 1440, []int{192, 216, 240}}, {owner(0, -10, -8, 0), 1440, []int{480, 504, 528}},
	} {
		checkShows(t, alone(x.o), 0, x.minute, api.OK, x.list...)
	}
	w := watchesX()
	for n, o := range w.Owners {
		checkShows(t, w, n, o.Set, api.OK, o.Set)
		checkShows(t, w, n, o.Set-1, api.ErrRefuse)
		checkShows(t, w, n, 0, api.ErrRefuse)
	}
	checkShows(t, alone(owner(1440, 0, 0, 0)), 0, 1439, api.ErrRefuse)
}

// P7.9: a watch that gains nothing shows the minute, modulo 720, always.
func TestRightWatch(t *testing.T) {
	for minute := range 1441 {
		for _, set := range []int{0, minute / 2, minute} {
			checkShows(t, alone(owner(set, 0, 0, 0)), 0, minute, api.OK, minute%720)
		}
	}
}

// P7.2: whose a find can be by itself; the hut, the minute, and the ends of what it shows.
func TestFits(t *testing.T) {
	right, fast, some := owner(100, 0, 0, 1), owner(0, 10, 10, 1), owner(0, 0, 2, 1)
	for i, x := range []struct {
		o   api.WatchOwner
		f   api.WatchFind
		can int
	}{
		// Of one that had not stopped: what it shows at the minute alone.
		{right, going(0, 110, 110, 110), 1}, {right, going(0, 110, 109, 110), 1}, {right, going(0, 110, 110, 111), 1}, {right, going(0, 110, 109, 109), 0}, {right, going(0, 110, 111, 111), 0}, {right, going(0, 110, 105, 109), 0}, {right, going(0, 110, 111, 115), 0}, {right, going(0, 110, 100, 130), 1},
		{right, going(0, 100, 100, 100), 1}, {right, going(0, 99, 99, 99), 0}, {right, going(0, 99, 70, 100), 0}, {right, going(0, 0, 0, 30), 0}, {right, going(0, 1440, 0, 0), 1}, {right, going(0, 1440, 1, 30), 0}, {right, going(0, 830, 110, 110), 1}, {right, going(0, 720, 719, 719), 0}, {right, going(0, 719, 719, 719), 1},
		{fast, going(0, 6, 7, 7), 1}, {fast, going(0, 6, 6, 6), 0}, {fast, going(0, 6, 5, 5), 0}, {owner(0, -10, -10, 1), going(0, 6, 5, 5), 1}, {owner(0, -10, -10, 1), going(0, 7, 6, 6), 0},
		// Any gain.
		{some, going(0, 600, 600, 600), 1}, {some, going(0, 600, 610, 610), 1}, {some, going(0, 600, 620, 620), 1}, {some, going(0, 600, 601, 609), 0}, {some, going(0, 600, 611, 619), 0}, {some, going(0, 600, 590, 599), 0}, {some, going(0, 600, 621, 650), 0}, {some, going(0, 710, 13, 13), 1}, {some, going(0, 710, 710, 719), 1}, {some, going(0, 710, 0, 0), 0}, {some, going(0, 710, 1, 1), 1},
		// Of one that had stopped: any minute from the Set to the one when it was found.
		{right, wet(0, 110, 110, 110), 1}, {right, wet(0, 110, 105, 105), 1}, {right, wet(0, 110, 100, 100), 1}, {right, wet(0, 110, 80, 100), 1}, {right, wet(0, 110, 80, 99), 0}, {right, wet(0, 110, 110, 120), 1}, {right, wet(0, 110, 111, 120), 0}, {right, wet(0, 100, 100, 100), 1}, {right, wet(0, 99, 99, 100), 0}, {right, wet(0, 0, 0, 0), 0},
		{right, wet(0, 799, 80, 99), 0}, {right, wet(0, 800, 80, 99), 1}, {right, wet(0, 818, 99, 99), 0}, {right, wet(0, 819, 99, 99), 1}, {right, wet(0, 820, 100, 100), 1}, {right, wet(0, 800, 80, 80), 1}, {right, wet(0, 799, 80, 80), 0}, {right, wet(0, 1440, 50, 50), 1}, {right, wet(0, 720, 0, 0), 1}, {right, wet(0, 719, 0, 0), 0},
		{fast, wet(0, 100, 6, 6), 0}, {fast, wet(0, 100, 13, 13), 0}, {fast, wet(0, 100, 5, 6), 1}, {fast, wet(0, 100, 6, 7), 1}, {fast, wet(0, 5, 6, 7), 0}, {fast, wet(0, 100, 116, 116), 1}, {fast, wet(0, 100, 117, 117), 0}, {some, wet(0, 600, 620, 620), 1}, {some, wet(0, 600, 621, 621), 0}, {some, wet(0, 599, 620, 620), 0}, {owner(1440, -1, 1, 1), wet(0, 1440, 0, 0), 1},
		// The hut.
		{owner(0, 0, 0, 62), going(0, 100, 100, 100), 0}, {owner(0, 0, 0, 32), going(5, 100, 100, 100), 1}, {owner(0, 0, 0, 31), going(5, 100, 100, 100), 0}, {owner(0, 0, 0, 63), going(3, 100, 100, 100), 1}, {owner(0, 0, 0, 55), going(3, 100, 100, 100), 0}, {owner(0, 0, 0, 0), going(0, 100, 100, 100), 0}, {owner(0, 0, 0, 62), wet(0, 100, 100, 100), 0}, {owner(0, 0, 0, 4), wet(2, 100, 100, 100), 1}, {owner(0, 0, 0, 2), wet(2, 100, 100, 100), 0},
	} {
		w := alone(x.o, x.f)
		if n, e := watch.Fits(w, 0); n != x.can || e != api.OK {
			t.Error(i, n, e, x)
		}
		if n, e := watch.Count(w); n != x.can || e != api.OK {
			t.Error(i, "Count", n, e, x)
		}
	}
	w := watches(inHuts(1, 2, 4, 3, 63), leftIn(0, 1, 2, 5)...)
	for find, owners := range []int{25, 26, 20, 16} {
		checkFits(t, w, find, owners)
	}
	checkFits(t, watches(nil, leftIn(0)...), 0, 0)
}

// P7.3: as few spans as can be, in order, of all minutes from the Set to the one when it was found.
func TestStopped(t *testing.T) {
	for _, x := range []struct {
		o    api.WatchOwner
		f    api.WatchFind
		ends []int
	}{
		// The dial is the same twice a day, or thrice at its end.
		{owner(0, 0, 0, 1), wet(0, 1440, 100, 110), []int{100, 110, 820, 830}}, {owner(0, 0, 0, 1), wet(0, 1440, 0, 0), []int{0, 0, 720, 720, 1440, 1440}}, {owner(0, 0, 0, 1), wet(0, 1440, 0, 30), []int{0, 30, 720, 750, 1440, 1440}}, {owner(0, 0, 0, 1), wet(0, 1440, 690, 719), []int{690, 719, 1410, 1439}}, {owner(720, 0, 0, 1), wet(0, 1440, 0, 0), []int{720, 720, 1440, 1440}},
		// From the Set, to the minute.
		{owner(105, 0, 0, 1), wet(0, 825, 100, 110), []int{105, 110, 820, 825}}, {owner(110, 0, 0, 1), wet(0, 820, 100, 110), []int{110, 110, 820, 820}}, {owner(111, 0, 0, 1), wet(0, 820, 100, 110), []int{820, 820}}, {owner(110, 0, 0, 1), wet(0, 819, 100, 110), []int{110, 110}}, {owner(111, 0, 0, 1), wet(0, 819, 100, 110), nil}, {owner(100, 0, 0, 1), wet(0, 100, 100, 100), []int{100, 100}}, {owner(101, 0, 0, 1), wet(0, 100, 100, 100), nil}, {owner(1440, 2, 2, 1), wet(0, 1440, 0, 1), []int{1440, 1440}}, {owner(0, 2, 2, 1), wet(0, 0, 0, 1), []int{0, 0}}, {owner(101, 0, 0, 1), wet(0, 100, 70, 100), nil},
		// A watch that gains leaves numbers out, one that loses shows some again.
		{owner(0, 10, 10, 1), wet(0, 100, 8, 8), []int{7, 7}}, {owner(0, 10, 10, 1), wet(0, 100, 6, 6), nil}, {owner(0, 10, 10, 1), wet(0, 100, 5, 8), []int{5, 7}}, {owner(0, -10, -10, 1), wet(0, 100, 5, 5), []int{6, 7}}, {owner(0, -10, -10, 1), wet(0, 100, 0, 0), []int{0, 1}}, {owner(0, -10, -10, 1), wet(0, 100, 10, 10), []int{12, 13}}, {owner(0, -1, -1, 1), wet(0, 100, 59, 59), []int{60, 61}}, {owner(0, -1, -1, 1), wet(0, 60, 59, 59), []int{60, 60}}, {owner(0, 1, 1, 1), wet(0, 100, 60, 60), nil}, {owner(0, 1, 1, 1), wet(0, 100, 59, 61), []int{59, 60}},
		// Several gains: together they can leave a minute out, or touch.
		{owner(0, 0, 2, 1), wet(0, 110, 100, 100), []int{97, 97, 99, 100}}, {owner(0, 1, 2, 1), wet(0, 110, 100, 100), []int{97, 97, 99, 99}}, {owner(0, 0, 2, 1), wet(0, 110, 100, 101), []int{97, 101}}, {owner(0, 0, 1, 1), wet(0, 620, 600, 600), []int{591, 591, 600, 600}}, {owner(0, 0, 2, 1), wet(0, 620, 600, 600), []int{581, 581, 591, 591, 600, 600}}, {owner(0, 0, 1, 1), wet(0, 620, 600, 608), []int{591, 608}}, {owner(0, 0, 1, 1), wet(0, 620, 600, 607), []int{591, 598, 600, 607}}, {owner(0, -1, 1, 1), wet(0, 100, 50, 50), []int{50, 51}}, {owner(0, -1, 0, 1), wet(0, 130, 100, 100), []int{100, 100, 102, 102}},
		// Another hut.
		{owner(0, 0, 0, 62), wet(0, 1000, 100, 110), nil}, {owner(0, 0, 0, 32), wet(5, 1000, 100, 110), []int{100, 110, 820, 830}}, {owner(0, 0, 0, 0), wet(5, 1000, 100, 110), nil},
	} {
		want := api.OK
		if len(x.ends) == 0 {
			want = api.ErrNone
		}
		checkStopped(t, alone(x.o, x.f), 0, 0, want, x.ends...)
		// Neither other finds nor that there is no truth makes a difference.
		checkStopped(t, alone(x.o, leftIn(5)[0], x.f, x.f), 2, 0, want, x.ends...)
		// Whether it can be the owner's comes after whether it had stopped.
		x.f.Stopped = false
		checkStopped(t, alone(x.o, x.f), 0, 0, api.ErrRefuse)
	}
	y := watchesY()
	checkStopped(t, y, 2, 2, api.OK, 742, 743)
	checkStopped(t, y, 1, 1, api.ErrRefuse)
}

// P7.4 to P7.7, of watches that have a truth.
func TestTold(t *testing.T) {
	all := []int{31, 31, 31, 31}
	for i, x := range []struct {
		w     api.Watches
		count int
		can   []int
		where []int // For each owner the finds, and 16 more if none is in some truth.
		sure  []int
	}{
		// Nobody, or no finds.
		{api.Watches{}, 1, nil, nil, nil}, {watches(inHuts(1, 0)), 1, nil, []int{16, 16}, nil},
		{watches(inHuts(1), leftIn(0)...), 1, []int{1}, []int{1}, []int{0}}, {watches(inHuts(2, 1), leftIn(0)...), 1, []int{2}, []int{16, 1}, []int{1}}, {watches(inHuts(1, 1), leftIn(0)...), 2, []int{3}, []int{17, 17}, []int{-1}},
		// One leaves others nothing else: each find has an owner alone by way of the others.
		{watches(inHuts(1, 3, 6, 12), leftIn(0, 1, 2, 3)...), 1, []int{1, 2, 4, 8}, []int{1, 2, 4, 8}, []int{0, 1, 2, 3}}, {watches(inHuts(12, 6, 3, 1), leftIn(0, 1, 2, 3)...), 1, []int{8, 4, 2, 1}, []int{8, 4, 2, 1}, []int{3, 2, 1, 0}},
		{watches(inHuts(1, 3, 6, 12, 8), leftIn(0, 1, 2, 3)...), 5, []int{3, 6, 12, 24}, []int{17, 19, 22, 28, 24}, []int{-1, -1, -1, -1}}, {watches(inHuts(1, 3, 6, 12, 4), leftIn(0, 1, 2, 3)...), 4, []int{3, 6, 20, 8}, []int{17, 19, 22, 8, 20}, []int{-1, -1, -1, 3}},
		// Two who share two, so that a third one has the third find.
		{watches(inHuts(3, 3, 7), leftIn(0, 1, 2)...), 2, []int{3, 3, 4}, []int{3, 3, 4}, []int{-1, -1, 2}}, {watches(inHuts(3, 3, 7), leftIn(0, 1)...), 6, []int{7, 7}, []int{19, 19, 19}, []int{-1, -1}}, {watches(inHuts(1, 1, 2), leftIn(0, 0, 1)...), 2, []int{3, 3, 4}, []int{3, 3, 4}, []int{-1, -1, 2}},
		{watches(inHuts(2, 1, 1), leftIn(0, 1)...), 2, []int{6, 1}, []int{2, 17, 17}, []int{-1, 0}}, {watches(inHuts(1, 1, 1), leftIn(0, 0, 0)...), 6, []int{7, 7, 7}, []int{7, 7, 7}, []int{-1, -1, -1}},
		// A round: either all finds are the one's or all are the other one's.
		{watches(inHuts(3, 6, 5), leftIn(0, 1, 2)...), 2, []int{5, 3, 6}, []int{3, 6, 5}, []int{-1, -1, -1}}, {watches(inHuts(3, 6, 12, 9), leftIn(0, 1, 2, 3)...), 2, []int{9, 3, 6, 12}, []int{3, 6, 12, 9}, []int{-1, -1, -1, -1}},
		// As many as there may be.
		{watches(inHuts(1, 1, 1, 1, 1), leftIn(0, 0, 0, 0)...), 120, all, []int{31, 31, 31, 31, 31}, []int{-1, -1, -1, -1}}, {watches(inHuts(1, 1, 1, 1), leftIn(0, 0, 0, 0)...), 24, []int{15, 15, 15, 15}, []int{15, 15, 15, 15}, []int{-1, -1, -1, -1}}, {watches(inHuts(1, 1, 1, 1, 1), leftIn(0, 0, 0)...), 60, all[:3], []int{23, 23, 23, 23, 23}, []int{-1, -1, -1}},
		{watches(inHuts(32, 31, 31, 31, 31), leftIn(5, 0, 0, 0)...), 24, []int{1, 30, 30, 30}, []int{1, 30, 30, 30, 30}, []int{0, -1, -1, -1}},
	} {
		checkCount(t, x.w, x.count)
		for find, owners := range x.can {
			checkCan(t, x.w, find, owners, api.OK)
		}
		for owner, finds := range x.where {
			checkWhere(t, x.w, owner, finds&15, finds&16 != 0, api.OK)
		}
		checkSure(t, x.w, api.OK, x.sure...)
		checkClash(t, x.w, 0, api.ErrNone)
		if t.Failed() {
			t.Fatal(i)
		}
	}
}

// P7.8: the fewest, and of these the least number.
func TestClash(t *testing.T) {
	for _, x := range []struct {
		w     api.Watches
		finds int
	}{
		// One that is nobody's; of several the first one.
		{watches(nil, leftIn(0)...), 1}, {watches(nil, leftIn(0, 1, 2, 3)...), 1}, {watches(inHuts(1), leftIn(1)...), 1}, {watches(inHuts(1), leftIn(0, 1)...), 2}, {watches(inHuts(1, 1, 1), leftIn(0, 0, 2, 1)...), 4}, {watches(inHuts(1, 1, 1), leftIn(0, 0, 0, 1)...), 8},
		// One is fewer than two, whatever their numbers are.
		{watches(inHuts(1, 2, 4), leftIn(0, 0, 1, 3)...), 8}, {watches(inHuts(1, 2, 4), leftIn(0, 0, 3, 1)...), 4},
		// Two of the same owner alone.
		{watches(inHuts(1), leftIn(0, 0)...), 3}, {watches(inHuts(3), leftIn(0, 1)...), 3}, {watches(inHuts(1), leftIn(0, 0, 0, 0)...), 3}, {watches(inHuts(1, 2), leftIn(0, 1, 0, 1)...), 5}, {watches(inHuts(1, 2), leftIn(0, 1, 1, 0)...), 6}, {watches(inHuts(1, 2), leftIn(0, 1, 1, 1)...), 6}, {watches(inHuts(1, 2, 4, 8), leftIn(0, 3, 2, 2)...), 12}, {watches(inHuts(1, 2, 4, 8), leftIn(3, 0, 1, 3)...), 9}, {watches(inHuts(1, 2, 4, 8), leftIn(0, 3, 1, 3)...), 10},
		// Three of two, four of three; two are fewer than three.
		{watches(inHuts(1, 1), leftIn(0, 0, 0)...), 7}, {watches(inHuts(1, 1), leftIn(0, 0, 0, 0)...), 7}, {watches(inHuts(1, 1, 2), leftIn(0, 0, 1, 0)...), 11}, {watches(inHuts(1, 2, 1), leftIn(0, 1, 0, 0)...), 13}, {watches(inHuts(2, 1, 1), leftIn(1, 0, 0, 0)...), 14}, {watches(inHuts(1, 1, 2), leftIn(0, 0, 1, 1)...), 12}, {watches(inHuts(1, 1, 1), leftIn(0, 0, 0, 0)...), 15}, {watches(inHuts(3, 6, 5), leftIn(0, 1, 2, 0)...), 15}, {watches(inHuts(3, 6), leftIn(0, 1, 2, 0)...), 9}, {watches(inHuts(3, 6), leftIn(0, 1, 2)...), 7},
	} {
		checkClash(t, x.w, x.finds, api.OK)
		checkCount(t, x.w, 0)
		checkSure(t, x.w, api.ErrClash)
		for find := range x.w.Finds {
			checkCan(t, x.w, find, 0, api.ErrClash)
		}
		for owner := range x.w.Owners {
			checkWhere(t, x.w, owner, 0, false, api.ErrClash)
		}
	}
}

// call is a call of one of the functions: its error, and whether all other results are zero values.
type call struct {
	name      string
	numbers   [3]bool // Of which it takes numbers: a find, an owner, a minute.
	noClashes bool    // Whether it has a result also if there is no truth.
	do        func(w api.Watches, find, owner, minute int) (api.Errno, bool)
}

func calls() []call {
	set := func(n int, e api.Errno) (api.Errno, bool) { return e, n == 0 }
	return []call{
		{"Shows", [3]bool{1: true, 2: true}, true, func(w api.Watches, _, o, m int) (api.Errno, bool) {
			l, e := watch.Shows(w, o, m)
			return e, len(l) == 0
		}},
		{"Fits", [3]bool{0: true}, true, func(w api.Watches, f, _, _ int) (api.Errno, bool) { return set(watch.Fits(w, f)) }},
		{"Stopped", [3]bool{0: true, 1: true}, true, func(w api.Watches, f, o, _ int) (api.Errno, bool) {
			l, e := watch.Stopped(w, f, o)
			return e, len(l) == 0
		}},
		{"Count", [3]bool{}, true, func(w api.Watches, _, _, _ int) (api.Errno, bool) { return set(watch.Count(w)) }},
		{"Can", [3]bool{0: true}, false, func(w api.Watches, f, _, _ int) (api.Errno, bool) { return set(watch.Can(w, f)) }},
		{"Where", [3]bool{1: true}, false, func(w api.Watches, _, o, _ int) (api.Errno, bool) {
			n, none, e := watch.Where(w, o)
			return e, n == 0 && !none
		}},
		{"Sure", [3]bool{}, false, func(w api.Watches, _, _, _ int) (api.Errno, bool) {
			l, e := watch.Sure(w)
			return e, len(l) == 0
		}},
		{"Clash", [3]bool{}, true, func(w api.Watches, _, _, _ int) (api.Errno, bool) { return set(watch.Clash(w)) }},
	}
}

// named is watches with a name.
type named struct {
	name string
	w    api.Watches
}

const low, high = math.MinInt, math.MaxInt

// invalid are watches that are not valid, each for one reason.
func invalid() (list []named) {
	add := func(name string, change func(w *api.Watches, n int)) {
		for n := range 3 {
			w := watchesX()
			change(&w, n)
			list = append(list, named{name, w})
		}
	}
	for _, x := range []int{low, -720, -1, 1441, 2000, high} {
		add("set", func(w *api.Watches, n int) { w.Owners[n].Set = x })
		add("minute", func(w *api.Watches, n int) { w.Finds[n].Minute = x })
	}
	for _, x := range []int{low, -64, -1, 64, 65, 127, 1 << 32, high} {
		add("huts", func(w *api.Watches, n int) { w.Owners[n].Huts = x })
	}
	for _, x := range []int{low, -1, 6, 7, 64, high} {
		add("hut", func(w *api.Watches, n int) { w.Finds[n].Hut = x })
	}
	for _, s := range spans(1, 0, 10, 8, 0, 3, -10, -7, 7, 10, -1, 2, -11, -11, -11, -9, -12, -11, 9, 11, 10, 11, 11, 11, -10, 10, low, high, high, low, low, low, high, high, low, -10, 10, high, 0, low) {
		add("gain", func(w *api.Watches, n int) { w.Owners[n].Gain = s })
	}
	for _, s := range spans(1, 0, 719, 718, 0, 31, 688, 719, 300, 331, -1, -1, -1, 0, -1, 29, 719, 720, 690, 720, 720, 720, 0, 719, low, high, high, low, low, low, high, high, low, 10, 10, high, 0, low) {
		add("shows", func(w *api.Watches, n int) { w.Finds[n].Shows = s })
	}
	for _, many := range []int{6, 7, 100} {
		add("owners", func(w *api.Watches, n int) { w.Owners = slices.Repeat(w.Owners[n:n+1], many) })
		add("owners alone", func(w *api.Watches, n int) { *w = watches(slices.Repeat(w.Owners[n:n+1], many)) })
	}
	for _, many := range []int{5, 6, 100} {
		add("finds", func(w *api.Watches, n int) { w.Finds = slices.Repeat(w.Finds[n:n+1], many) })
		add("finds alone", func(w *api.Watches, n int) { *w = watches(nil, slices.Repeat(w.Finds[n:n+1], many)...) })
	}
	return list
}

// limits are watches that go as far as they may.
func limits() []named {
	return []named{
		{"nothing", api.Watches{}}, {"empty", api.Watches{Owners: []api.WatchOwner{}, Finds: []api.WatchFind{}}}, {"as many as can be", watches(inHuts(1, 2, 4, 8, 63), leftIn(0, 0, 0, 5)...)},
		{"the earliest", alone(owner(0, -10, -10, 0), going(0, 0, 0, 0))}, {"the latest", alone(owner(1440, 10, 10, 63), wet(5, 1440, 719, 719))}, {"the widest", alone(owner(0, 8, 10, 63), wet(5, 1440, 689, 719), going(0, 0, 0, 30))}, {"the widest loss", alone(owner(0, -10, -8, 63), wet(5, 1440, 300, 330))},
		{"found before it was set", alone(owner(1440, 0, 0, 63), wet(5, 0, 0, 0), going(5, 0, 0, 0))},
	}
}

// ErrArg comes first, whatever else is wrong, and with it there is no other result.
func TestInvalidWatches(t *testing.T) {
	for i, x := range invalid() {
		for _, f := range calls() {
			for _, n := range []int{low, -1, 0, 2, 9, 600, high} {
				if e, zero := f.do(x.w, n, n, n); e != api.ErrArg || !zero {
					t.Error(i, x.name, f.name, n, e, zero)
				}
			}
		}
	}
}

func TestLimitsAreValid(t *testing.T) {
	for _, x := range limits() {
		for _, f := range calls() {
			e, _ := f.do(x.w, len(x.w.Finds)-1, len(x.w.Owners)-1, 1440)
			none := f.numbers[0] && len(x.w.Finds) == 0 || f.numbers[1] && len(x.w.Owners) == 0
			if e == api.ErrArg || e == api.ErrRange != none {
				t.Error(x.name, f.name, e)
			}
		}
	}
}

// ErrRange comes just beyond finds, owners and minutes, before all errors but ErrArg, and of numbers alone that a function takes.
func TestRanges(t *testing.T) {
	for _, f := range calls() {
		for _, w := range []api.Watches{watchesX(), watchesY(), watchesW()} {
			many := []int{len(w.Finds), len(w.Owners), 1441}
			for which := range many {
				for _, n := range []int{low, -2, -1, many[which], many[which] + 1, high} {
					// The others are such, but the minute is one of ErrRefuse and the find one that had not stopped.
					numbers := []int{0, 0, 0}
					numbers[which] = n
					e, zero := f.do(w, numbers[0], numbers[1], numbers[2])
					if is := e == api.ErrRange; is != f.numbers[which] || is && !zero {
						t.Error(f.name, which, n, e, zero)
					}
				}
			}
		}
		if e, zero := f.do(api.Watches{}, 0, 0, 0); (e == api.ErrRange) != (f.numbers[0] || f.numbers[1]) || e == api.ErrRange && !zero {
			t.Error(f.name, "nothing", e, zero)
		}
		if e, zero := f.do(watches(nil, leftIn(0)...), 0, 0, 0); (e == api.ErrRange) != f.numbers[1] || e == api.ErrRange && !zero {
			t.Error(f.name, "no owner", e, zero)
		}
	}
}

// If there is no truth, some functions have ErrClash, and the others what they have anyhow.
func TestClashes(t *testing.T) {
	for _, f := range calls() {
		for find := range 3 {
			for owner := range 3 {
				e, zero := f.do(watchesY(), find, owner, 700)
				switch {
				case !f.noClashes:
					if e != api.ErrClash || !zero {
						t.Error(f.name, find, owner, e, zero)
					}
				case f.name == "Stopped" && find < 2:
					if e != api.ErrRefuse || !zero {
						t.Error(f.name, find, owner, e, zero)
					}
				case f.name == "Stopped" && owner < 2:
					if e != api.ErrNone || !zero {
						t.Error(f.name, find, owner, e, zero)
					}
				case e != api.OK:
					t.Error(f.name, find, owner, e)
				}
			}
		}
	}
}

// P7.8 and R3: nil lists and empty ones are the same, and without finds there is one truth.
func TestEmptyLists(t *testing.T) {
	for _, w := range []api.Watches{{}, {Owners: []api.WatchOwner{}, Finds: []api.WatchFind{}}, {Owners: inHuts(1, 2), Finds: []api.WatchFind{}}, {Owners: inHuts(1, 2)}} {
		checkCount(t, w, 1)
		checkSure(t, w, api.OK)
		checkClash(t, w, 0, api.ErrNone)
		for n := range w.Owners {
			checkWhere(t, w, n, 0, true, api.OK)
		}
	}
}

// R4: no argument is changed, nor what lies behind it in memory.
func TestArgumentsStay(t *testing.T) {
	for _, w := range []api.Watches{watchesW(), watchesX(), watchesY(), watches(inHuts(1, 1, 1), leftIn(0, 0, 0, 0)...), watches(inHuts(1, 2), leftIn(0, 1, 3)...)} {
		owners, finds := append(slices.Clone(w.Owners), owner(1, 2, 3, 4)), append(slices.Clone(w.Finds), wet(1, 2, 3, 4))
		sameOwners, sameFinds := slices.Clone(owners), slices.Clone(finds)
		w.Owners, w.Finds = owners[:len(w.Owners)], finds[:len(w.Finds)]
		for _, f := range calls() {
			for find := range w.Finds {
				for owner := range w.Owners {
					f.do(w, find, owner, 700)
					if !slices.Equal(owners, sameOwners) || !slices.Equal(finds, sameFinds) {
						t.Fatal(f.name, owners, finds)
					}
				}
			}
		}
	}
}

// R4: each result is new memory, so that what is done to one shows in no other one.
func TestResultsAreNew(t *testing.T) {
	w := watches([]api.WatchOwner{owner(0, 0, 2, 1)}, wet(0, 110, 100, 100))
	for range 3 {
		shows, _ := watch.Shows(w, 0, 60)
		stopped, _ := watch.Stopped(w, 0, 0)
		sure, _ := watch.Sure(w)
		checkShows(t, w, 0, 60, api.OK, 60, 61, 62)
		checkStopped(t, w, 0, 0, api.OK, 97, 97, 99, 100)
		checkSure(t, w, api.OK, 0)
		clear(shows[:cap(shows)])
		clear(stopped[:cap(stopped)])
		clear(sure[:cap(sure)])
	}
}

// Nothing is kept from call to call: after a call with an error, or of other watches, all is as it was.
func TestCallsKnowNothingOfOneAnother(t *testing.T) {
	for range 2 {
		TestExamples(t)
		for _, f := range calls() {
			f.do(watches(inHuts(64)), -1, -1, -1)
			f.do(watchesY(), 1, 1, 700)
			f.do(watches(inHuts(1, 1, 1, 1, 1), leftIn(0, 0, 0, 0)...), 9, 9, 9)
			f.do(watches(inHuts(1, 1, 1, 1, 1), leftIn(0, 0, 0, 0)...), 3, 4, 700)
		}
	}
}
