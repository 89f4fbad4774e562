package watch

import (
	"iter"

	"dipworks/api"
)

// hour is how many minutes it has.
const hour = 60

// owner is somebody who left a watch.
type owner struct{ api.WatchOwner }

// gained goes through how many minutes the watch can have gained from the Set to a minute.
func (o owner) gained(minute int) iter.Seq[int] {
	return func(yield func(int) bool) {
		for gain := o.Gain.Lo; gain <= o.Gain.Hi; gain++ {
			if !yield(quotient(gain*(minute-o.Set), hour)) {
				return
			}
		}
	}
}

// shown goes through the numbers that the watch can show at a minute, some perhaps more than once.
func (o owner) shown(minute int) iter.Seq[dial] {
	right := midnight.later(minute)
	return mapped(o.gained(minute), right.later)
}

// when goes through the minutes at which the owner's watch can have shown what the find shows, of those at which the find can have come to show it. There is none just if the find cannot be the owner's.
func (o owner) when(f find) iter.Seq[int] {
	return func(yield func(int) bool) {
		if !set(o.Huts).has(f.hut()) {
			return
		}
	minutes:
		for minute := range f.since(o.Set) {
			for d := range o.shown(minute) {
				if !f.reads(d) {
					continue
				}
				if !yield(minute) {
					break minutes
				}
				continue minutes // Another gain tells nothing new of this minute.
			}
		}
	}
}

// canHave returns whether the find can be the owner's.
func (o owner) canHave(f find) bool {
	for range o.when(f) {
		return true
	}
	return false
}
