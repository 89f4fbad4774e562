package boat_test

import (
	"testing"

	"dipworks/api"
	"dipworks/boat"
)

func span(lo, hi int) api.Span { return api.Span{Lo: lo, Hi: hi} }

// at is a sighting at one place, around is one within some columns and rows.
func at(minute, column, row int) api.BoatSeen {
	return around(minute, span(column, column), span(row, row))
}

func around(minute int, columns, rows api.Span) api.BoatSeen {
	return api.BoatSeen{Minute: minute, Columns: columns, Rows: rows}
}

func list(seen ...api.BoatSeen) []api.BoatSeen { return seen }

// boats are those that were seen so, each one of a list.
func boats(wide, deep, speed, last int, seen ...[]api.BoatSeen) api.Boats {
	return api.Boats{Wide: wide, Deep: deep, Speed: speed, Last: last, Seen: seen}
}

// boatsB and boatsN are those of the examples.
func boatsB(more ...api.BoatSeen) api.Boats {
	return boats(6, 4, 1, 6, append(list(at(0, 0, 3), around(4, span(2, 2), span(2, 3))), more...), list(around(2, span(3, 4), span(1, 1)), around(5, span(5, 5), span(0, 3))))
}

func boatsN() api.Boats { return boatsB(at(5, 5, 0)) }

// line and shaft are boats of one row, or of one column.
func line(wide, speed, last int, seen ...[]api.BoatSeen) api.Boats {
	return boats(wide, 1, speed, last, seen...)
}

func shaft(deep, speed, last int, seen ...[]api.BoatSeen) api.Boats {
	return boats(1, deep, speed, last, seen...)
}

// set is the set of some numbers.
func set(of ...int) (set int) {
	for _, n := range of {
		set |= 1 << n
	}
	return set
}

func checkCan(t *testing.T, b api.Boats, one, minute, places int, want api.Errno) {
	t.Helper()
	if n, e := boat.Can(b, one, minute); n != places || e != want {
		t.Errorf("Can of %v, %d, %d: %b, %d, not %b, %d", b, one, minute, n, e, places, want)
	}
}

func checkRows(t *testing.T, b api.Boats, one, minute int, rows api.Span, want api.Errno) {
	t.Helper()
	if s, e := boat.Rows(b, one, minute); s != rows || e != want {
		t.Error("Rows", b, one, minute, s, e, rows, want)
	}
}

func checkNearest(t *testing.T, b api.Boats, one int, rows api.Span, want api.Errno) {
	t.Helper()
	if s, e := boat.Nearest(b, one); s != rows || e != want {
		t.Error("Nearest", b, one, s, e, rows, want)
	}
}

func checkBroke(t *testing.T, b api.Boats, one, row, broke int, want api.Errno) {
	t.Helper()
	if n, e := boat.Broke(b, one, row); n != broke || e != want {
		t.Error("Broke", b, one, row, n, e, broke, want)
	}
}

func checkMet(t *testing.T, b api.Boats, one, two, minute int, want api.Errno) {
	t.Helper()
	if n, e := boat.Met(b, one, two); n != minute || e != want {
		t.Error("Met", b, one, two, n, e, minute, want)
	}
}

func checkWho(t *testing.T, b api.Boats, minute, place, surely, perhaps int, want api.Errno) {
	t.Helper()
	if n, m, e := boat.Who(b, minute, place); n != surely || m != perhaps || e != want {
		t.Errorf("Who of %v, %d, %d: %b, %b, %d, not %b, %b, %d", b, minute, place, n, m, e, surely, perhaps, want)
	}
}

func checkSpeed(t *testing.T, b api.Boats, one, steps int, want api.Errno) {
	t.Helper()
	if n, e := boat.Speed(b, one); n != steps || e != want {
		t.Error("Speed", b, one, n, e, steps, want)
	}
}

func checkWrong(t *testing.T, b api.Boats, one, sightings int, want api.Errno) {
	t.Helper()
	if n, e := boat.Wrong(b, one); n != sightings || e != want {
		t.Errorf("Wrong of %v, %d: %b, %d, not %b, %d", b, one, n, e, sightings, want)
	}
}

// The examples of the chapter, and that of the document.
func TestExamples(t *testing.T) {
	b, n := boatsB(), boatsN()
	checkCan(t, b, 0, 2, 1847296, api.OK)
	checkCan(t, b, 0, 2, set(12, 13, 18, 19, 20), api.OK)
	checkCan(t, b, 1, 2, 1536, api.OK)
	checkCan(t, b, 1, 2, set(9, 10), api.OK)
	checkRows(t, b, 0, 2, span(2, 3), api.OK)
	checkNearest(t, b, 0, span(0, 3), api.OK)
	checkNearest(t, b, 1, span(0, 1), api.OK)
	checkBroke(t, b, 0, 2, api.BoatPerhaps, api.OK)
	checkBroke(t, b, 0, 0, api.BoatNever, api.OK)
	checkBroke(t, b, 1, 2, api.BoatAlways, api.OK)
	checkMet(t, b, 0, 1, 6, api.OK)
	checkWho(t, b, 6, 16, 0, set(0, 1), api.OK)
	checkWho(t, b, 2, 9, 0, set(1), api.OK)
	checkWho(t, b, 0, 18, set(0), set(0), api.OK)
	checkSpeed(t, b, 0, 1, api.OK)
	checkWrong(t, n, 0, 4, api.OK)
	checkWrong(t, b, 0, 0, api.ErrNone)
	checkCan(t, n, 0, 0, 0, api.ErrClash)
}

// P12.1: where a boat can be, and in which rows.
func TestCanAndRows(t *testing.T) {
	cross, far := set(7, 11, 12, 13, 17), set(2, 6, 7, 8, 10, 11, 12, 13, 14, 16, 17, 18, 22)
	for _, x := range []struct {
		b    api.Boats
		can  []int // in each minute
		rows []api.Span
	}{
		// It was not seen.
		{boats(1, 1, 0, 0, nil), []int{1}, []api.Span{span(0, 0)}},
		{boats(8, 6, 3, 1, list()), []int{1<<48 - 1, 1<<48 - 1}, []api.Span{span(0, 5), span(0, 5)}},
		{boats(2, 3, 0, 0, nil), []int{63}, []api.Span{span(0, 2)}},
		// It goes nowhere, but can have been anywhere where it was seen each time.
		{boats(4, 3, 0, 2, list(at(1, 1, 2))), []int{set(9), set(9), set(9)}, []api.Span{span(2, 2), span(2, 2), span(2, 2)}},
		{boats(4, 3, 0, 3, list(around(1, span(0, 2), span(0, 1)), around(3, span(2, 3), span(1, 2)))), []int{set(6), set(6), set(6), set(6)}, []api.Span{span(1, 1), span(1, 1), span(1, 1), span(1, 1)}},
		{boats(4, 3, 0, 0, list(around(0, span(0, 2), span(0, 1)), around(0, span(2, 3), span(0, 2)), around(0, span(1, 2), span(0, 2)))), []int{set(2, 6)}, []api.Span{span(0, 1)}},
		// It goes one step, or as many as that, and before it was seen as after it.
		{boats(5, 5, 1, 3, list(at(1, 2, 2))), []int{cross, set(12), cross, far}, []api.Span{span(1, 3), span(2, 2), span(1, 3), span(0, 4)}},
		{boats(5, 5, 2, 2, list(at(1, 2, 2))), []int{far, set(12), far}, []api.Span{span(0, 4), span(2, 2), span(0, 4)}},
		{boats(5, 5, 3, 1, list(at(0, 2, 2))), []int{set(12), 1<<25 - 1 - set(0, 4, 20, 24)}, []api.Span{span(2, 2), span(0, 4)}},
		{boats(8, 6, 3, 4, list(at(0, 0, 0))), []int{set(0), set(0, 1, 2, 3, 8, 9, 10, 16, 17, 24), 0x03070f1f3f7f, 0x1f3f7fffffff, 1<<48 - 1}, []api.Span{span(0, 0), span(0, 3), span(0, 5), span(0, 5), span(0, 5)}},
		// A row ends where it ends.
		{boats(3, 3, 1, 1, list(at(0, 2, 0))), []int{set(2), set(1, 2, 5)}, []api.Span{span(0, 0), span(0, 1)}},
		{boats(3, 3, 1, 1, list(at(0, 0, 1))), []int{set(3), set(0, 3, 4, 6)}, []api.Span{span(1, 1), span(0, 2)}},
		{boats(3, 3, 1, 1, list(at(0, 2, 1))), []int{set(5), set(2, 4, 5, 8)}, []api.Span{span(1, 1), span(0, 2)}},
		{boats(3, 3, 1, 1, list(at(0, 0, 2))), []int{set(6), set(3, 6, 7)}, []api.Span{span(2, 2), span(1, 2)}},
		{boats(3, 3, 1, 1, list(at(0, 2, 2))), []int{set(8), set(5, 7, 8)}, []api.Span{span(2, 2), span(1, 2)}},
		{boats(8, 6, 1, 1, list(at(1, 7, 5))), []int{set(47, 46, 39), set(47)}, []api.Span{span(4, 5), span(5, 5)}},
		{shaft(6, 2, 2, list(at(1, 0, 4))), []int{set(2, 3, 4, 5), set(4), set(2, 3, 4, 5)}, []api.Span{span(2, 5), span(4, 4), span(2, 5)}},
		{line(8, 2, 1, list(at(0, 6, 0))), []int{set(6), set(4, 5, 6, 7)}, []api.Span{span(0, 0), span(0, 0)}},
		// It was on its way from one sighting to another one.
		{line(5, 1, 4, list(at(0, 0, 0), at(4, 4, 0))), []int{set(0), set(1), set(2), set(3), set(4)}, make([]api.Span, 5)},
		{line(5, 1, 6, list(at(0, 0, 0), at(6, 4, 0))), []int{set(0), set(0, 1), set(0, 1, 2), set(1, 2, 3), set(2, 3, 4), set(3, 4), set(4)}, make([]api.Span, 7)},
		{line(8, 3, 3, list(at(0, 7, 0), at(3, 0, 0))), []int{set(7), set(4, 5, 6), set(1, 2, 3), set(0)}, make([]api.Span, 4)},
		{line(8, 2, 3, list(around(0, span(0, 3), span(0, 0)), around(1, span(5, 7), span(0, 0)), around(3, span(1, 2), span(0, 0)))), []int{set(3), set(5), set(3, 4), set(1, 2)}, make([]api.Span, 4)},
		{boats(3, 2, 1, 2, list(at(0, 0, 0), at(2, 1, 1))), []int{set(0), set(1, 3), set(4)}, []api.Span{span(0, 0), span(0, 1), span(1, 1)}},
		// What is seen later tells of earlier minutes too.
		{boats(3, 3, 1, 2, list(around(0, span(0, 2), span(2, 2)), around(2, span(2, 2), span(0, 2)), at(2, 2, 0))), []int{set(8), set(5), set(2)}, []api.Span{span(2, 2), span(1, 1), span(0, 0)}},
		{line(4, 1, 12, list(at(12, 0, 0))), []int{15, 15, 15, 15, 15, 15, 15, 15, 15, 15, 7, 3, 1}, make([]api.Span, 13)},
	} {
		for minute, places := range x.can {
			checkCan(t, x.b, 0, minute, places, api.OK)
			checkRows(t, x.b, 0, minute, x.rows[minute], api.OK)
		}
		checkCan(t, x.b, 0, len(x.can), 0, api.ErrRange)
		checkRows(t, x.b, 0, len(x.can), span(0, 0), api.ErrRange)
	}
}

// Each boat has its own sightings, whatever the others have.
func TestEachBoat(t *testing.T) {
	b := line(6, 1, 2, list(at(0, 0, 0)), list(at(1, 5, 0)), nil, list(at(0, 0, 0), at(1, 5, 0)))
	for one, can := range [][]int{{set(0), set(0, 1), set(0, 1, 2)}, {set(4, 5), set(5), set(4, 5)}, {63, 63, 63}} {
		for minute, places := range can {
			checkCan(t, b, one, minute, places, api.OK)
		}
		checkNearest(t, b, one, span(0, 0), api.OK)
		checkSpeed(t, b, one, 0, api.OK)
		checkWrong(t, b, one, 0, api.ErrNone)
	}
	checkCan(t, b, 3, 0, 0, api.ErrClash)
	checkSpeed(t, b, 3, 0, api.ErrNone)
	checkWrong(t, b, 3, 1, api.OK)
}

// P12.2 and P12.3: how near a boat came, and whether it was nearer than each row.
func TestNearestAndBroke(t *testing.T) {
	for _, x := range []struct {
		b    api.Boats
		near api.Span
	}{
		{boats(8, 6, 0, 0, nil), span(0, 5)}, {boats(8, 6, 3, 12, nil), span(0, 5)}, {line(8, 1, 5, nil), span(0, 0)}, {shaft(6, 0, 3, list(at(2, 0, 4))), span(4, 4)}, {shaft(6, 0, 3, list(around(2, span(0, 0), span(1, 4)))), span(1, 4)},
		// There is time to come near, before or after it was seen, and to go back.
		{shaft(6, 1, 3, list(at(0, 0, 5))), span(2, 5)}, {shaft(6, 1, 3, list(at(3, 0, 5))), span(2, 5)}, {shaft(6, 2, 2, list(at(0, 0, 5))), span(1, 5)}, {shaft(6, 3, 1, list(at(1, 0, 5))), span(2, 5)}, {shaft(6, 1, 3, list(at(0, 0, 5), at(3, 0, 5))), span(4, 5)}, {shaft(6, 1, 4, list(at(0, 0, 5), at(4, 0, 5))), span(3, 5)}, {shaft(6, 2, 3, list(at(0, 0, 5), at(3, 0, 5))), span(3, 5)}, {shaft(6, 3, 12, list(at(0, 0, 5), at(12, 0, 5))), span(0, 5)}, {shaft(6, 1, 5, list(at(0, 0, 5), at(5, 0, 2))), span(1, 2)},
		// It was near when it was seen, and may have been nearer.
		{shaft(6, 1, 4, list(at(2, 0, 1))), span(0, 1)}, {shaft(6, 1, 4, list(at(0, 0, 3), at(2, 0, 1), at(4, 0, 3))), span(1, 1)}, {shaft(6, 1, 4, list(around(0, span(0, 0), span(3, 5)), around(4, span(0, 0), span(0, 4)))), span(0, 4)}, {shaft(6, 1, 2, list(at(0, 0, 0))), span(0, 0)}, {shaft(6, 2, 1, list(around(0, span(0, 0), span(4, 5)), around(1, span(0, 0), span(0, 2)))), span(2, 2)}, {shaft(6, 3, 1, list(around(0, span(0, 0), span(4, 5)), around(1, span(0, 0), span(0, 2)))), span(1, 2)},
		// To be as far from the beach as that it has to go on its way there.
		{boats(4, 3, 1, 4, list(around(0, span(0, 0), span(1, 2)), around(4, span(3, 3), span(0, 2)))), span(0, 2)}, {boats(4, 3, 1, 3, list(at(0, 0, 1), at(3, 3, 1))), span(1, 1)}, {boats(4, 3, 1, 4, list(at(0, 0, 1), at(4, 3, 1))), span(1, 1)}, {boats(4, 3, 1, 5, list(at(0, 0, 1), at(5, 3, 1))), span(0, 1)}, {boats(4, 3, 1, 4, list(at(0, 0, 2), at(4, 3, 1))), span(1, 1)}, {boats(3, 3, 2, 4, list(at(2, 1, 2))), span(0, 2)},
	} {
		checkNearest(t, x.b, 0, x.near, api.OK)
		for row := range x.b.Deep + 1 {
			switch {
			case row <= x.near.Lo:
				checkBroke(t, x.b, 0, row, api.BoatNever, api.OK)
			case row <= x.near.Hi:
				checkBroke(t, x.b, 0, row, api.BoatPerhaps, api.OK)
			default:
				checkBroke(t, x.b, 0, row, api.BoatAlways, api.OK)
			}
		}
		checkBroke(t, x.b, 0, x.b.Deep, api.BoatAlways, api.OK)
		checkBroke(t, x.b, 0, 0, api.BoatNever, api.OK)
		checkBroke(t, x.b, 0, x.b.Deep+1, 0, api.ErrRange)
	}
}

// P12.4: when two boats can first have been at the same place, each in some truth of its own.
func TestMet(t *testing.T) {
	for _, x := range []struct {
		b      api.Boats
		minute int // -1: in none
	}{
		{line(8, 1, 6, list(at(0, 0, 0)), list(at(0, 7, 0))), 4}, {line(8, 1, 6, list(at(0, 0, 0)), list(at(0, 6, 0))), 3}, {line(8, 1, 3, list(at(0, 0, 0)), list(at(0, 7, 0))), -1}, {line(8, 2, 6, list(at(0, 0, 0)), list(at(0, 7, 0))), 2}, {line(8, 3, 6, list(at(0, 0, 0)), list(at(0, 7, 0))), 2}, {line(8, 0, 12, list(at(0, 0, 0)), list(at(0, 7, 0))), -1}, {line(8, 0, 12, list(at(7, 3, 0)), list(at(0, 3, 0))), 0},
		// One is not seen at all, or later.
		{line(8, 0, 0, nil, nil), 0}, {line(8, 0, 3, list(at(3, 5, 0)), nil), 0}, {line(8, 1, 6, list(at(0, 0, 0), at(5, 0, 0)), list(at(2, 4, 0))), 6}, {line(8, 1, 6, list(at(3, 0, 0)), list(at(3, 7, 0))), -1}, {line(8, 1, 6, list(at(3, 0, 0)), list(at(3, 6, 0))), 0}, {line(8, 1, 6, list(at(2, 0, 0)), list(at(2, 7, 0))), 6}, {line(8, 1, 5, list(at(2, 0, 0)), list(at(2, 7, 0))), -1},
		// They change places, and are never at the same one.
		{line(2, 1, 1, list(at(0, 0, 0), at(1, 1, 0)), list(at(0, 1, 0), at(1, 0, 0))), -1}, {line(3, 1, 2, list(at(0, 0, 0), at(2, 2, 0)), list(at(0, 2, 0), at(2, 0, 0))), 1},
		// They are in the same column, or the same row, but not in both.
		{boats(3, 3, 0, 2, list(at(0, 1, 1)), list(at(0, 1, 2))), -1}, {boats(3, 3, 0, 2, list(at(0, 1, 1)), list(at(0, 2, 1))), -1}, {boats(3, 3, 0, 2, list(at(0, 1, 1)), list(at(2, 1, 1))), 0}, {boats(3, 3, 1, 2, list(at(0, 0, 0)), list(at(0, 2, 2))), 2}, {boats(3, 3, 1, 1, list(at(0, 0, 0)), list(at(0, 2, 2))), -1}, {boats(3, 3, 0, 2, list(around(0, span(0, 2), span(0, 0))), list(around(1, span(2, 2), span(0, 2)))), 0},
	} {
		x.b.Seen = append(x.b.Seen, list(at(0, 0, 0), at(0, x.b.Wide-1, 0))) // This one has no truth.
		for one := range 2 {
			checkMet(t, x.b, one, one, 0, api.OK)
			if x.minute < 0 {
				checkMet(t, x.b, one, 1-one, 0, api.ErrNone)
				continue
			}
			checkMet(t, x.b, one, 1-one, x.minute, api.OK)
		}
	}
}

// P12.5: which boats were at a place, surely and perhaps.
func TestWho(t *testing.T) {
	b := boats(3, 2, 1, 2, list(at(0, 0, 0)), list(at(2, 2, 1)), nil, list(at(0, 0, 0), at(2, 2, 0)))
	for minute, x := range [][6][2]int{
		{{set(0, 3), set(0, 2, 3)}, {0, set(1, 2)}, {0, set(1, 2)}, {0, set(1, 2)}, {0, set(1, 2)}, {0, set(1, 2)}},
		{{0, set(0, 2)}, {set(3), set(0, 2, 3)}, {0, set(1, 2)}, {0, set(0, 2)}, {0, set(1, 2)}, {0, set(1, 2)}},
		{{0, set(0, 2)}, {0, set(0, 2)}, {set(3), set(0, 2, 3)}, {0, set(0, 2)}, {0, set(0, 2)}, {set(1), set(1, 2)}},
	} {
		for place, who := range x {
			checkWho(t, b, minute, place, who[0], who[1], api.OK)
		}
		checkWho(t, b, minute, 6, 0, 0, api.ErrRange)
	}
	for minute := range 13 {
		checkWho(t, boats(1, 1, 3, 12, nil, nil, nil, nil), minute, 0, 15, 15, api.OK)
		checkWho(t, boats(8, 6, 0, 12, list(at(12, 7, 5)), nil, list(at(0, 7, 5)), list(at(6, 7, 4))), minute, 47, set(0, 2), set(0, 1, 2), api.OK)
		checkWho(t, boats(8, 6, 0, 12), minute, 47, 0, 0, api.OK)
	}
}

// P12.6: how fast a boat must be, whatever Speed is.
func TestSpeed(t *testing.T) {
	for _, x := range []struct {
		b     api.Boats
		speed int // -1: there is none
	}{
		{boats(8, 6, 0, 12, nil), 0}, {line(8, 0, 1, list(at(0, 3, 0))), 0}, {line(8, 0, 1, list(at(0, 3, 0), at(1, 3, 0))), 0}, {line(8, 0, 1, list(at(0, 3, 0), at(1, 4, 0))), 1}, {line(8, 0, 1, list(at(0, 3, 0), at(1, 1, 0))), 2}, {line(8, 0, 1, list(at(0, 3, 0), at(1, 6, 0))), 3}, {line(8, 0, 1, list(at(0, 3, 0), at(1, 7, 0))), -1}, {line(8, 0, 2, list(at(0, 0, 0), at(2, 6, 0))), 3}, {line(8, 0, 2, list(at(0, 0, 0), at(2, 7, 0))), -1}, {line(8, 0, 3, list(at(0, 0, 0), at(3, 7, 0))), 3}, {line(8, 0, 4, list(at(0, 0, 0), at(4, 7, 0))), 2}, {line(8, 0, 7, list(at(0, 0, 0), at(7, 7, 0))), 1}, {line(8, 0, 6, list(at(0, 0, 0), at(6, 7, 0))), 2},
		// Across rows each column and each row is a step.
		{boats(4, 4, 0, 1, list(at(0, 1, 1), at(1, 2, 2))), 2}, {boats(4, 4, 0, 1, list(at(0, 1, 1), at(1, 0, 3))), 3}, {boats(4, 4, 0, 1, list(at(0, 1, 1), at(1, 3, 3))), -1}, {boats(8, 6, 0, 12, list(at(0, 0, 0), at(12, 7, 5))), 1}, {boats(8, 6, 0, 12, list(at(0, 7, 0), at(4, 0, 5))), 3}, {boats(8, 6, 0, 12, list(at(0, 7, 0), at(3, 0, 5))), -1}, {boats(3, 3, 0, 1, list(at(0, 2, 0), at(1, 0, 1))), 3}, {boats(4, 4, 0, 1, list(at(0, 3, 0), at(1, 0, 1))), -1},
		// In the same minute it was at places that it cannot have been at, with any speed.
		{line(8, 3, 2, list(at(1, 3, 0), at(1, 4, 0))), -1}, {line(8, 3, 2, list(around(1, span(1, 3), span(0, 0)), around(1, span(3, 4), span(0, 0)))), 0},
		// All sightings count together, not two by two.
		{line(8, 0, 2, list(at(0, 0, 0), around(1, span(0, 4), span(0, 0)), at(2, 4, 0))), 2}, {line(8, 0, 2, list(around(0, span(0, 2), span(0, 0)), around(1, span(2, 5), span(0, 0)), around(2, span(4, 7), span(0, 0)))), 1}, {line(8, 0, 2, list(around(0, span(0, 2), span(0, 0)), at(1, 4, 0), around(2, span(1, 1), span(0, 0)))), 3}, {line(8, 0, 6, list(at(0, 0, 0), at(3, 3, 0), at(5, 7, 0), at(6, 7, 0))), 2},
	} {
		for speed := range 4 {
			x.b.Speed = speed
			if x.speed < 0 {
				checkSpeed(t, x.b, 0, 0, api.ErrNone)
				checkCan(t, x.b, 0, 0, 0, api.ErrClash)
				continue
			}
			checkSpeed(t, x.b, 0, x.speed, api.OK)
			if _, e := boat.Can(x.b, 0, 0); (e == api.OK) != (x.speed <= speed) {
				t.Error("Can", x.b, speed, e)
			}
		}
	}
}

// P12.7: the fewest sightings that must be wrong, of several the least number.
func TestWrong(t *testing.T) {
	a, b, c, d, e := at(1, 0, 0), at(1, 2, 0), at(1, 4, 0), at(1, 6, 0), at(1, 7, 0)
	for _, x := range []struct {
		seen  []api.BoatSeen
		wrong []int
	}{
		{list(a, b), []int{0}}, {list(a, a, b), []int{2}}, {list(a, b, a), []int{1}}, {list(b, a, a), []int{0}}, {list(a, a, b, b), []int{0, 1}}, {list(a, b, a, b), []int{0, 2}}, {list(a, b, b, a), []int{1, 2}}, {list(a, b, c), []int{0, 1}}, {list(a, b, c, d), []int{0, 1, 2}}, {list(a, b, c, d, e), []int{0, 1, 2, 3}}, {list(a, b, c, d, a), []int{1, 2, 3}}, {list(a, b, c, c, a), []int{1, 2, 3}}, {list(e, b, c, e, b), []int{0, 2, 3}}, {list(a, a, a, b, b), []int{3, 4}}, {list(a, a, b, b, b), []int{0, 1}}, {list(a, a, a, a, b), []int{4}}, {list(b, a, a, a, a), []int{0}},
		// It could not go so far, with one step in a minute.
		{list(at(0, 0, 0), at(1, 2, 0)), []int{0}}, {list(at(0, 0, 0), at(1, 1, 0), at(2, 3, 0)), []int{2}}, {list(at(0, 0, 0), at(1, 3, 0), at(2, 2, 0)), []int{0}}, {list(at(0, 0, 0), at(1, 3, 0), at(2, 1, 0)), []int{1}}, {list(at(0, 0, 0), at(1, 1, 0), at(3, 5, 0)), []int{2}}, {list(at(0, 0, 0), at(2, 2, 0), at(3, 6, 0)), []int{2}}, {list(at(0, 7, 0), at(2, 2, 0), at(3, 3, 0)), []int{0}}, {list(at(0, 0, 0), at(1, 5, 0), at(2, 2, 0), at(3, 7, 0), at(4, 4, 0)), []int{1, 3}}, {list(at(0, 7, 0), at(1, 0, 0), at(2, 7, 0), at(3, 0, 0), at(4, 7, 0)), []int{1, 3}}, {list(at(0, 0, 0), at(1, 7, 0), at(2, 6, 0), at(4, 4, 0), at(5, 7, 0)), []int{0, 3}},
	} {
		s := line(8, 1, 5, list(at(0, 0, 0)), x.seen)
		checkWrong(t, s, 1, set(x.wrong...), api.OK)
		checkWrong(t, s, 0, 0, api.ErrNone)
		checkCan(t, s, 1, 0, 0, api.ErrClash)
	}
	fast := list(at(0, 0, 0), at(1, 3, 0), at(2, 0, 0))
	checkWrong(t, line(8, 3, 5, fast), 0, 0, api.ErrNone)
	checkWrong(t, line(8, 2, 5, fast), 0, set(1), api.OK)
	checkWrong(t, line(8, 0, 5, nil), 0, 0, api.ErrNone)
	checkWrong(t, boats(8, 6, 0, 12, list(at(0, 0, 0), at(12, 7, 5))), 0, set(0), api.OK)
}
