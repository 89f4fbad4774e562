package flag

import "dipworks/api"

// tally is how many truths there are by the number of hours in which the flag is up.
type tally [api.FlagHours + 1]int

// plus returns how many truths of both tallies there are.
func (t tally) plus(other tally) tally {
	for long, many := range other {
		t[long] += many
	}
	return t
}

// longer returns the same truths if the flag is up for one hour more.
func (t tally) longer() tally {
	var next tally
	copy(next[1:], t[:])
	return next
}

func (t tally) sum() int {
	sum := 0
	for _, many := range t {
		sum += many
	}
	return sum
}

// lengths returns the span of the numbers of hours, of which there has to be one.
func (t tally) lengths() api.Span {
	var s api.Span
	for t[s.Lo] == 0 {
		s.Lo++
	}
	for long, many := range t {
		if many > 0 {
			s.Hi = long
		}
	}
	return s
}

// tally returns how many truths there are of those that are counted.
func (x looked) tally(which counted) tally {
	known := map[standing]tally{}
	// What can follow a standing is the same whatever was before it, so truths are told from behind.
	var from func(s standing) tally
	from = func(s standing) tally {
		if s.hour == len(x.Hours) {
			return tally{0: 1}
		}
		if t, is := known[s]; is {
			return t
		}
		var t tally
		for _, k := range x.kinds(s.hour) {
			up := s.upIn(k)
			if !x.agrees(s.hour, up) || !which.fits(s.hour, k, up) {
				continue
			}
			rest := from(s.after(k, x.Quiet))
			if up {
				rest = rest.longer()
			}
			t = t.plus(rest)
		}
		known[s] = t
		return t
	}
	return from(standing{})
}
