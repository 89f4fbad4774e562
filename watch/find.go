package watch

import (
	"iter"

	"dipworks/api"
)

// find is a watch that was found.
type find interface {
	// hut returns in which hut it was.
	hut() int
	// reads returns whether it shows a number.
	reads(d dial) bool
	// since goes through the minutes at which it can have come to show what it shows, if it was set right at a minute.
	since(minute int) iter.Seq[int]
}

// going is a watch that had not stopped: what it shows is what it showed when it was found.
type going struct{ api.WatchFind }

func (f going) hut() int {
	return f.Hut
}

func (f going) reads(d dial) bool {
	return isWithin(d.number(), f.Shows.Lo, f.Shows.Hi)
}

func (f going) since(minute int) iter.Seq[int] {
	return from(max(minute, f.Minute), f.Minute)
}

// stopped is a watch that had stopped, at any minute before it was found.
type stopped struct{ going }

func (f stopped) since(minute int) iter.Seq[int] {
	return from(minute, f.Minute)
}

// from goes through the minutes from one to another one; there is none if this is before it.
func from(minute, to int) iter.Seq[int] {
	return func(yield func(int) bool) {
		for m := minute; m <= to; m++ {
			if !yield(m) {
				return
			}
		}
	}
}

// spans returns minutes that come in order as spans, as few as can be.
func spans(minutes iter.Seq[int]) []api.Span {
	var list []api.Span
	for m := range minutes {
		last := len(list) - 1
		if last >= 0 && list[last].Hi == m-1 {
			list[last].Hi = m
			continue
		}
		list = append(list, api.Span{Lo: m, Hi: m})
	}
	return list
}
