package boat

import "dipworks/api"

// hold is what a boat is held to.
type hold interface {
	// leaves returns the places at which the boat can be in a minute.
	leaves(w water, minute int) set
}

// sighting holds a boat to the places where it was seen, in that minute.
type sighting struct{ api.BoatSeen }

func (s sighting) leaves(w water, minute int) set {
	if minute != s.Minute {
		return w.all()
	}
	return w.within(s.Columns, s.Rows)
}

// distance holds a boat to a row and to those that are farther from the beach, in all minutes.
type distance struct{ row int }

func (d distance) leaves(w water, _ int) set {
	return w.beyond(d.row)
}
