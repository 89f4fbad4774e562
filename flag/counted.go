package flag

// counted is which truths are counted.
type counted interface {
	// fits returns whether an hour is as in those truths, by its kind and by whether the flag is up in it.
	fits(hour int, k kind, up bool) bool
}

// ofKind is the truths in which an hour is of a kind.
type ofKind struct {
	hour int
	kind kind
}

func (o ofKind) fits(hour int, k kind, _ bool) bool {
	return hour != o.hour || k.is(o.kind)
}

// staysDown is the truths in which the flag is down in all hours from one to before another one.
type staysDown struct{ from, to int }

func (d staysDown) fits(hour int, _ kind, up bool) bool {
	return !up || !isWithin(hour, d.from, d.to-1)
}

// everyTruth is all truths, for the flag is to stay down in no hour.
func everyTruth() counted {
	return staysDown{}
}
