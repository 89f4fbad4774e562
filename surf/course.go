package surf

import "dipworks/api"

// lostRow stands for the row of a hut that is lost.
const lostRow = api.SurfRows

// seaward returns where a hut is that goes out to sea from a row.
func seaward(row int) int {
	if row == 0 {
		return lostRow
	}
	return row - 1
}

// standing is a hut as it stands when an hour begins: in the row in which it is then.
type standing struct {
	api.SurfHut
	hour int
}

// outcome is what can come of an hour for a hut: where it can be afterwards, and whether it floats, and does not, in some truth.
type outcome struct {
	rows          set
	floats, rests bool
}

// surely returns whether it floats in each truth.
func (o outcome) surely() bool {
	return !o.rests
}

// perhaps returns whether it floats in some truth.
func (o outcome) perhaps() bool {
	return o.floats
}

// or returns what can come of an hour if one or the other can.
func (o outcome) or(other outcome) outcome {
	return outcome{rows: join(o.rows, other.rows), floats: o.floats || other.floats, rests: o.rests || other.rests}
}

// outcome returns what can come of an hour for a hut.
func (s shore) outcome(hut standing) outcome {
	if o, ok := s.kept[hut]; ok {
		return o
	}
	var o outcome
seas:
	for x := range s.seas(hut.hour) {
		switch {
		case hut.Row == lostRow:
			o = outcome{rows: one(lostRow), rests: true}
			break seas // It is lost in any sea.
		case !s.lifts(x, hut.SurfHut):
			o = o.or(outcome{rows: one(hut.Row), rests: true})
		case x.waves <= hut.Brake:
			o = o.or(outcome{rows: one(hut.Row), floats: true})
		default:
			o = o.or(outcome{rows: one(seaward(hut.Row)), floats: true})
		}
	}
	s.kept[hut] = o
	return o
}

// course is where a hut can be when each hour begins and, behind the last one, after all hours.
type course [api.SurfHours + 1]set

// course returns where a hut can be.
func (s shore) course(hut api.SurfHut) course {
	c := course{one(hut.Row)}
	for hour := range s.Water {
		c[hour+1] = s.outcomeFrom(c[hour], hut, hour).rows
	}
	return c
}

// outcomeFrom returns what can come of an hour for a hut that is in one of some rows when it begins.
func (s shore) outcomeFrom(rows set, hut api.SurfHut, hour int) outcome {
	var o outcome
	for row := range rows.each {
		hut.Row = row
		o = o.or(s.outcome(standing{SurfHut: hut, hour: hour}))
	}
	return o
}

// hours returns the hours of which such can come for a hut.
func (s shore) hours(hut api.SurfHut, such func(outcome) bool) set {
	c := s.course(hut)
	return setOf(len(s.Water), func(hour int) bool {
		return such(s.outcomeFrom(c[hour], hut, hour))
	})
}

// told is the hours in which a hut floats in each truth, and those in which it does in some.
type told struct{ surely, perhaps set }

// told returns in which hours a hut floats.
func (s shore) told(hut api.SurfHut) told {
	return told{surely: s.hours(hut, outcome.surely), perhaps: s.hours(hut, outcome.perhaps)}
}

// place is the rows in which a hut is in some truth, and whether it is lost in some.
type place struct {
	rows set
	lost bool
}

// place returns where a hut can be after an hour.
func (s shore) place(hut api.SurfHut, hour int) place {
	rows := s.course(hut)[hour+1]
	return place{rows: rows & all(s.Rows), lost: rows.has(lostRow)}
}

// lost returns whether a hut is lost after all hours: never, perhaps or always.
func (s shore) lost(hut api.SurfHut) int {
	rows := s.course(hut)[len(s.Water)]
	switch {
	case rows == one(lostRow):
		return api.SurfAlways
	case rows.has(lostRow):
		return api.SurfPerhaps
	}
	return api.SurfNever
}
