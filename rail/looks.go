package rail

import "dipworks/api"

// looks is a rail in its best truth and in its worst one. In each other truth nothing is dry before it is in the best one, or after it is in the worst one, so the ends of what is told are theirs.
type looks struct{ best, worst looked }

// look returns a rail that is looked at in its best truth and in its worst one.
func look(r api.Rail) looks {
	b := best{hours(r.Rain), hours(r.Sun)}
	return looks{lookIn(r, b), lookIn(r, worst{b, hours(r.Perhaps)})}
}

// dry returns from the earliest to the latest when a line is dry.
func (l looks) dry(line api.RailLine) api.Span {
	latest := l.worst.dryAt(line)
	require(isHourOrEnd(l.worst.Rail, latest), api.ErrRefuse)
	return api.Span{Lo: l.best.dryAt(line), Hi: latest}
}

// wet returns how many towels, at least and at most, are on lines that are not dry at an hour.
func (l looks) wet(hour int) api.Span {
	return api.Span{Lo: l.best.wet(hour), Hi: l.worst.wet(hour)}
}

// store is a rail of which is known too how many towels all bathers can have kept.
type store struct {
	looks
	kept api.Span
}

// left returns how many towels are left, in one of the two truths, without those that are kept and those that are wet; it is below 0 if these are more than there are.
func (s store) left(x looked, hour int) int {
	return x.Stock - sum(x.of(s.kept), x.wet(hour))
}

// ready returns how many towels, at least and at most, are at hand at an hour.
func (s store) ready(hour int) api.Span {
	return api.Span{Lo: max(0, s.left(s.worst, hour)), Hi: max(0, s.left(s.best, hour))}
}

// enough returns whether so many are at hand at an hour.
func (s store) enough(hour, many int) int {
	switch atHand := s.ready(hour); {
	case many <= atHand.Lo:
		return api.RailAlways
	case many <= atHand.Hi:
		return api.RailPerhaps
	default:
		return api.RailNever
	}
}

// when returns from when on so many are surely at hand. There are never fewer later, so this is when they first are.
func (s store) when(end, many int) int {
	hour, is := first(until(end+1), search[hours, int]{hours.up, func(hour int) bool {
		return s.enough(hour, many) == api.RailAlways
	}})
	require(is, api.ErrNone)
	return hour
}

// buy returns how many more towels there would have to be for so many to surely be at hand at an hour.
func (s store) buy(hour, many int) int {
	if s.enough(hour, many) == api.RailAlways {
		return 0
	}
	return many - s.left(s.worst, hour)
}
