package boat

import (
	"iter"

	"dipworks/api"
)

// track is at which places a boat can be in each minute.
type track [api.BoatLast + 1]set

// and returns at which places a boat can be by both tracks.
func (t track) and(other track) track {
	for minute, places := range other {
		t[minute] &= places
	}
	return t
}

// isSomewhere returns whether a boat can be at some place in a minute.
func (t track) isSomewhere(minute int) bool {
	return !t[minute].isEmpty()
}

// forward goes through the minutes from the first to the last one.
func forward(last int) iter.Seq[int] {
	return func(yield func(minute int) bool) {
		for minute := 0; minute <= last; minute++ {
			if !yield(minute) {
				return
			}
		}
	}
}

// backward goes through the minutes from the last to the first one.
func backward(last int) iter.Seq[int] {
	return func(yield func(minute int) bool) {
		for minute := last; minute >= 0; minute-- {
			if !yield(minute) {
				return
			}
		}
	}
}

// sailed returns at which places a boat can be in each minute by what it is held to in this one, and in those that the order has before it. What comes after it is not looked at.
func sailed(w water, order iter.Seq[int], speed int, holds []hold) track {
	var t track
	places := w.all()
minutes:
	for minute := range order {
		for _, h := range holds {
			places &= h.leaves(w, minute)
			if places.isEmpty() {
				break minutes // In the minutes after this one it can be nowhere either.
			}
		}
		t[minute] = places
		places = w.spread(places, speed)
	}
	return t
}
