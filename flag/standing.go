package flag

import "dipworks/api"

// standing is where the flag is before an hour, and after how many calm hours, one after the other, in which it was up.
type standing struct {
	hour int
	up   bool
	calm int
}

// upIn returns whether the flag is up in the hour if this is of a kind.
func (s standing) upIn(k kind) bool {
	return s.up || k.is(api.FlagStormy)
}

// after returns the standing after the hour if this is of a kind. The flag is taken down after so many calm hours.
func (s standing) after(k kind, quiet int) standing {
	next := standing{hour: s.hour + 1, up: s.upIn(k)}
	if !next.up || !k.is(api.FlagCalm) {
		return next
	}
	next.calm = s.calm + 1
	if next.calm == quiet {
		return standing{hour: next.hour}
	}
	return next
}
