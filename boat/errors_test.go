package boat_test

import (
	"math"
	"slices"
	"testing"

	"dipworks/api"
	"dipworks/boat"
)

// argument is one that a function takes beside the boats: what it can be at most; it is 0 at least.
type argument func(b api.Boats) (most int)

func aBoat(b api.Boats) int   { return len(b.Seen) - 1 }
func aMinute(b api.Boats) int { return b.Last }
func aPlace(b api.Boats) int  { return b.Wide*b.Deep - 1 }
func aRow(b api.Boats) int    { return b.Deep }

// call is a function, what it takes, and what it does: its error, and whether all else is zero.
type call struct {
	name   string
	takes  []argument
	truths bool // Whether there has to be a truth.
	do     func(b api.Boats, n, m int) (api.Errno, bool)
}

func calls() []call {
	return []call{
		{"Can", []argument{aBoat, aMinute}, true, func(b api.Boats, n, m int) (api.Errno, bool) {
			places, e := boat.Can(b, n, m)
			return e, places == 0
		}},
		{"Rows", []argument{aBoat, aMinute}, true, func(b api.Boats, n, m int) (api.Errno, bool) {
			s, e := boat.Rows(b, n, m)
			return e, s == span(0, 0)
		}},
		{"Nearest", []argument{aBoat}, true, func(b api.Boats, n, _ int) (api.Errno, bool) {
			s, e := boat.Nearest(b, n)
			return e, s == span(0, 0)
		}},
		{"Broke", []argument{aBoat, aRow}, true, func(b api.Boats, n, m int) (api.Errno, bool) {
			broke, e := boat.Broke(b, n, m)
			return e, broke == 0
		}},
		{"Met", []argument{aBoat, aBoat}, true, func(b api.Boats, n, m int) (api.Errno, bool) {
			minute, e := boat.Met(b, n, m)
			return e, minute == 0
		}},
		{"Who", []argument{aMinute, aPlace}, true, func(b api.Boats, n, m int) (api.Errno, bool) {
			surely, perhaps, e := boat.Who(b, n, m)
			return e, surely == 0 && perhaps == 0
		}},
		{"Speed", []argument{aBoat}, false, func(b api.Boats, n, _ int) (api.Errno, bool) {
			steps, e := boat.Speed(b, n)
			return e, steps == 0
		}},
		{"Wrong", []argument{aBoat}, false, func(b api.Boats, n, _ int) (api.Errno, bool) {
			sightings, e := boat.Wrong(b, n)
			return e, sightings == 0
		}},
	}
}

// such returns whether the arguments are what the function takes.
func (c call) such(b api.Boats, n, m int) bool {
	for i, most := range c.takes {
		if !isIn([]int{n, m}[i], span(0, most(b))) {
			return false
		}
	}
	return true
}

const low, high = math.MinInt, math.MaxInt

// named is boats with a name.
type named struct {
	name string
	b    api.Boats
}

func changed(name string, change func(b *api.Boats)) named {
	b := boatsB()
	change(&b)
	return named{name, b}
}

// invalid are boats that are not valid, each for one reason.
func invalid() []named {
	list := []named{{"nothing", api.Boats{}}}
	add := func(name string, change func(b *api.Boats)) {
		list = append(list, changed(name, change))
	}
	for _, n := range []int{low, -6, -1, 0, 9, 10, high} {
		add("wide", func(b *api.Boats) { b.Wide = n })
		add("wide, not seen", func(b *api.Boats) { b.Wide, b.Seen = n, make([][]api.BoatSeen, 2) })
	}
	for _, n := range []int{low, -4, -1, 0, 7, 8, high} {
		add("deep", func(b *api.Boats) { b.Deep = n })
		add("deep, not seen", func(b *api.Boats) { b.Deep, b.Seen = n, make([][]api.BoatSeen, 2) })
	}
	for _, n := range []int{low, -2, -1, 4, 5, high} {
		add("speed", func(b *api.Boats) { b.Speed = n })
	}
	for _, n := range []int{low, -1, 13, 14, high} {
		add("last", func(b *api.Boats) { b.Last = n })
		add("last, not seen", func(b *api.Boats) { b.Last, b.Seen = n, make([][]api.BoatSeen, 2) })
	}
	for _, many := range []int{5, 6, 1000} {
		add("boats", func(b *api.Boats) { b.Seen = make([][]api.BoatSeen, many) })
	}
	for one := range 2 {
		for _, many := range []int{6, 7, 1000} {
			add("sightings", func(b *api.Boats) { b.Seen[one] = slices.Repeat(b.Seen[one][:1], many) })
		}
	}
	add("a column too few", func(b *api.Boats) { b.Wide = 5 })
	add("a row too few", func(b *api.Boats) { b.Deep = 3 })
	add("a minute too few", func(b *api.Boats) { b.Last = 4 })
	for n := range 3 {
		for one := range 2 {
			addSightings(add, one, n)
		}
	}
	return list
}

// addSightings adds boats of which one sighting is not valid.
func addSightings(add func(name string, change func(b *api.Boats)), one, n int) {
	change := func(name string, do func(s *api.BoatSeen)) {
		add(name, func(b *api.Boats) {
			b.Seen[one] = list(at(2, 0, 0), at(4, 1, 1), at(4, 2, 2))
			do(&b.Seen[one][n])
		})
	}
	minutes := [][]int{{low, -1, 5, 6, 7, high}, {low, -1, 0, 1, 5, 6, 7, high}, {low, -1, 0, 2, 3, 7, 8, high}}
	for _, minute := range minutes[n] {
		change("minute", func(s *api.BoatSeen) { s.Minute = minute })
	}
	for _, bad := range []api.Span{span(-1, -1), span(-1, 0), span(1, 0), span(3, 2), span(3, 0), span(2, 6), span(6, 6), span(6, 2), span(7, 7), span(low, 0), span(low, low), span(low, high), span(0, high), span(high, high), span(high, low), span(high, 0)} {
		change("columns", func(s *api.BoatSeen) { s.Columns = bad })
		change("rows", func(s *api.BoatSeen) { s.Rows = bad })
	}
	for _, bad := range []api.Span{span(0, 4), span(4, 4), span(4, 5), span(5, 5), span(5, 3)} {
		change("rows", func(s *api.BoatSeen) { s.Rows = bad })
	}
}

// bounds are boats that go as far as they may.
func bounds() []named {
	everywhere := around(12, span(0, 7), span(0, 5))
	return []named{
		{"the least of all", boats(1, 1, 0, 0, nil)}, {"the most of all", boats(8, 6, 3, 12, slices.Repeat([][]api.BoatSeen{slices.Repeat(list(everywhere), 5)}, 4)...)}, {"one place after the other", boats(8, 6, 3, 12, list(at(0, 0, 0), at(3, 7, 0), at(6, 7, 5), at(9, 0, 5), at(12, 0, 0)))}, {"no boats", boats(8, 6, 3, 12)}, {"no boats and hardly any water", boats(1, 1, 0, 0)},
		changed("as wide as may be", func(b *api.Boats) { b.Wide = 8 }), changed("as deep as may be", func(b *api.Boats) { b.Deep = 6 }), changed("as fast as may be", func(b *api.Boats) { b.Speed = 3 }), changed("as long as may be", func(b *api.Boats) { b.Last = 12 }), changed("as long as has to be", func(b *api.Boats) { b.Last = 5 }), changed("no sightings", func(b *api.Boats) { b.Seen = make([][]api.BoatSeen, 4) }),
		{"the first and the last place", boats(8, 6, 3, 12, list(at(0, 0, 0), around(0, span(0, 7), span(0, 0)), at(12, 7, 5), around(12, span(7, 7), span(0, 5)), at(12, 7, 5)))}, {"one column", shaft(6, 0, 12, list(at(0, 0, 5)))}, {"one row", line(8, 0, 12, list(at(0, 7, 0)))},
	}
}

// ErrArg comes first, whatever else is wrong, and with it there is no other result.
func TestInvalidBoats(t *testing.T) {
	for i, x := range invalid() {
		for _, c := range calls() {
			for _, n := range []api.Span{span(0, 0), span(1, 1), span(0, 3), span(-1, -1), span(0, -1), span(4, 7), span(low, high), span(high, low), span(high, high)} {
				if e, zero := c.do(x.b, n.Lo, n.Hi); e != api.ErrArg || !zero {
					t.Error(i, x.name, c.name, n, e, zero)
				}
			}
		}
	}
}

// Boats that go as far as they may are valid, and all arguments that are such have results; just beyond them is ErrRange.
func TestBounds(t *testing.T) {
	for _, x := range bounds() {
		for _, c := range calls() {
			for n := -2; n <= 50; n++ {
				for m := -2; m <= 50; m++ {
					e, zero := c.do(x.b, n, m)
					switch {
					case e != api.OK && !zero:
						t.Error(x.name, c.name, n, m, e)
					case !c.such(x.b, n, m):
						if e != api.ErrRange {
							t.Error(x.name, c.name, n, m, e)
						}
					case e == api.OK, e == api.ErrNone && (c.name == "Wrong" || c.name == "Met"):
					default:
						t.Error(x.name, c.name, n, m, e)
					}
					if len(c.takes) == 1 {
						break // The second number makes no difference.
					}
				}
			}
		}
	}
}

// ErrRange comes before ErrClash and what else there is, whichever argument is wrong.
func TestRanges(t *testing.T) {
	wrong := []int{low, low + 1, -48, -1, 48, 49, 64, high - 1, high}
	for _, b := range []api.Boats{boatsB(), boatsN(), boats(1, 1, 0, 0), line(8, 0, 12, list(at(0, 0, 0)), list(at(0, 1, 0)))} {
		for _, c := range calls() {
			for _, n := range wrong {
				for _, m := range append([]int{0, 1}, wrong...) {
					pairs := [][2]int{{n, m}}
					if len(c.takes) > 1 {
						pairs = append(pairs, [2]int{m, n})
					}
					for _, p := range pairs {
						if e, zero := c.do(b, p[0], p[1]); e != api.ErrRange || !zero {
							t.Error(c.name, b, p, e, zero)
						}
					}
				}
			}
		}
	}
}

// ErrClash comes before what else there is, if there is no truth for a boat that is looked at: by Who for any; but Speed and Wrong have results.
func TestNoTruth(t *testing.T) {
	n := boatsN()
	n.Seen = append(n.Seen, list(at(0, 0, 0)))
	for _, c := range calls() {
		for m := range 3 {
			if e, zero := c.do(n, 0, m); c.truths && (e != api.ErrClash || !zero) || !c.truths && e != api.OK && e != api.ErrNone {
				t.Error(c.name, m, e, zero)
			}
		}
	}
	checkCan(t, n, 1, 2, set(9, 10), api.OK)
	checkRows(t, n, 1, 2, span(1, 1), api.OK)
	checkNearest(t, n, 1, span(0, 1), api.OK)
	checkBroke(t, n, 1, 2, api.BoatAlways, api.OK)
	checkMet(t, n, 0, 0, 0, api.ErrClash)
	checkMet(t, n, 0, 1, 0, api.ErrClash)
	checkMet(t, n, 1, 0, 0, api.ErrClash)
	checkMet(t, n, 1, 1, 0, api.OK)
	checkMet(t, n, 1, 2, 3, api.OK)
	checkSpeed(t, n, 0, 0, api.ErrNone)
	checkSpeed(t, n, 1, 1, api.OK)
	checkWrong(t, n, 1, 0, api.ErrNone)
	for one := range 3 { // Whichever boat has none.
		b := line(3, 0, 1, nil, nil, nil)
		b.Seen[one] = list(at(0, 0, 0), at(1, 1, 0))
		for minute := range 2 {
			for place := range 3 {
				checkWho(t, b, minute, place, 0, 0, api.ErrClash)
			}
		}
		checkMet(t, b, one, (one+1)%3, 0, api.ErrClash)
		checkMet(t, b, (one+1)%3, one, 0, api.ErrClash)
		checkMet(t, b, (one+1)%3, (one+2)%3, 0, api.OK)
	}
}

// R3: nil lists and empty ones are the same; a boat that was not seen can have been anywhere.
func TestNotSeen(t *testing.T) {
	for _, seen := range [][]api.BoatSeen{nil, {}} {
		b := boats(3, 2, 0, 1, seen, seen)
		checkCan(t, b, 1, 1, 63, api.OK)
		checkRows(t, b, 0, 0, span(0, 1), api.OK)
		checkNearest(t, b, 0, span(0, 1), api.OK)
		checkBroke(t, b, 1, 1, api.BoatPerhaps, api.OK)
		checkMet(t, b, 0, 1, 0, api.OK)
		checkWho(t, b, 1, 5, 0, 3, api.OK)
		checkSpeed(t, b, 0, 0, api.OK)
		checkWrong(t, b, 0, 0, api.ErrNone)
	}
	for _, none := range [][][]api.BoatSeen{nil, {}} {
		b := boats(3, 2, 0, 1, none...)
		b.Seen = none
		checkWho(t, b, 1, 5, 0, 0, api.OK)
		for _, c := range calls() {
			if e, zero := c.do(b, 0, 0); c.name != "Who" && e != api.ErrRange || !zero {
				t.Error(c.name, e, zero)
			}
		}
	}
}

// R4 and P12.8: no argument is changed, nor what lies behind it in memory.
func TestArgumentsStay(t *testing.T) {
	for _, b := range []api.Boats{boatsB(), boatsN(), line(8, 1, 5, list(at(0, 7, 0), at(1, 0, 0), at(2, 7, 0), at(3, 0, 0), at(4, 7, 0)), nil)} {
		one := append(slices.Clone(b.Seen[0]), at(5, 3, 0), at(5, 4, 0))
		lists := append(slices.Clone(b.Seen), list(at(1, 1, 0)), list(at(2, 2, 0)))
		lists[0] = one[:len(b.Seen[0])]
		b.Seen = lists[:2]
		same, other := cloned(api.Boats{Seen: lists}).Seen, slices.Clone(one)
		for _, c := range calls() {
			for n := range 2 {
				for m := range 2 {
					c.do(b, n, m)
				}
			}
			if !slices.EqualFunc(lists, same, slices.Equal) || !slices.Equal(one, other) {
				t.Fatal(c.name, lists, one)
			}
		}
	}
}

// Nothing is kept from call to call: after a call with an error, or of other boats, all is as it was.
func TestCallsKnowNothingOfOneAnother(t *testing.T) {
	for range 2 {
		TestExamples(t)
		for _, c := range calls() {
			c.do(api.Boats{}, 0, 1)
			c.do(boatsN(), 0, 2)
			c.do(boatsB(), -1, 9)
			c.do(line(8, 0, 12, list(at(0, 0, 0)), list(at(0, 1, 0))), 0, 1)
		}
	}
}
