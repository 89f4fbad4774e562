package boat

import "dipworks/api"

// water is the places before the beach: so many columns, and so many rows.
type water struct{ wide, deep int }

func (w water) all() set {
	return first(w.wide * w.deep)
}

// within returns the places within some columns and rows.
func (w water) within(columns, rows api.Span) set {
	return those(w.wide*w.deep, func(place int) bool {
		return isWithin(place%w.wide, columns.Lo, columns.Hi) && isWithin(place/w.wide, rows.Lo, rows.Hi)
	})
}

// beyond returns the places in a row and in those that are farther from the beach.
func (w water) beyond(row int) set {
	return w.within(api.Span{Hi: w.wide - 1}, api.Span{Lo: row, Hi: w.deep - 1})
}

func (w water) column(n int) set {
	return w.within(api.Span{Lo: n, Hi: n}, api.Span{Hi: w.deep - 1})
}

// spread returns the places that are at most so many steps away from some of these.
func (w water) spread(from set, steps int) set {
	// In numbers the last column is next to the first one of another row, but in the water it is not.
	begin, end := w.column(0), w.column(w.wide-1)
	for range steps {
		from = union(from, (from&^end)<<1, (from&^begin)>>1, from<<w.wide, from>>w.wide) & w.all()
	}
	return from
}

// rows returns the span from the least to the greatest row of some places, of which there has to be one.
func (w water) rows(of set) api.Span {
	return api.Span{Lo: of.least() / w.wide, Hi: of.greatest() / w.wide}
}
