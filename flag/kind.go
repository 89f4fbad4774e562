package flag

import (
	"iter"

	"dipworks/api"
)

// Whether it thundered in an hour.
const (
	thunderNever = iota
	thunderPerhaps
	thunderAlways
)

// kind is the kind of an hour.
type kind int

// kinds are all kinds, in order.
type kinds [3]kind

func every() kinds {
	return kinds{api.FlagCalm, api.FlagBetween, api.FlagStormy}
}

func (k kind) is(other kind) bool {
	return k == other
}

// alone returns the set of this kind alone.
func (k kind) alone() set {
	return one(int(k))
}

// kinds returns the kinds of which an hour can be, in order.
func (x looked) kinds(hour int) []kind {
	var list []kind
	for _, k := range every() {
		if some(x.weathers(x.Hours[hour]), k.is) {
			list = append(list, k)
		}
	}
	return list
}

// weathers goes through the kinds of an hour with each wind and with or without thunder, as it can have been. A kind can come more than once.
func (x looked) weathers(h api.FlagHour) iter.Seq[kind] {
	return func(yield func(kind) bool) {
		for wind := h.Wind.Lo; wind <= h.Wind.Hi; wind++ {
			if h.Thunder != thunderNever && !yield(x.kind(wind, true)) {
				return
			}
			if h.Thunder != thunderAlways && !yield(x.kind(wind, false)) {
				return
			}
		}
	}
}

// kind returns of which kind an hour is with a wind, and with thunder or without it.
func (x looked) kind(wind int, thunder bool) kind {
	switch {
	case thunder || wind >= x.High:
		return api.FlagStormy
	case wind < x.Low:
		return api.FlagCalm
	}
	return api.FlagBetween
}

// some returns whether some value is such.
func some[T any](values iter.Seq[T], such func(T) bool) bool {
	for v := range values {
		if such(v) {
			return true
		}
	}
	return false
}
