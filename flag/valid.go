package flag

import "dipworks/api"

// valid returns whether a flag is valid.
func valid(f api.Flag) bool {
	if !isWithin(f.Low, 1, f.High) || !isWithin(f.High, 1, api.FlagWind) || !isWithin(f.Quiet, 1, api.FlagQuiet) || len(f.Hours) > api.FlagHours || len(f.Seen) > api.FlagSeens {
		return false
	}
	for _, h := range f.Hours {
		if !isSpan(h.Wind, 0, api.FlagWind) || !isWithin(h.Thunder, thunderNever, thunderAlways) {
			return false
		}
	}
	for _, s := range f.Seen {
		if !isHour(f, s.Hour) {
			return false
		}
	}
	return true
}

func isHour(f api.Flag, n int) bool {
	return isWithin(n, 0, len(f.Hours)-1)
}

// isSpan returns whether a span is a valid one within the least and the greatest number.
func isSpan(s api.Span, least, most int) bool {
	return least <= s.Lo && s.Lo <= s.Hi && s.Hi <= most
}

// isWithin returns whether a number is from the least to the greatest one.
func isWithin(n, least, most int) bool {
	return least <= n && n <= most
}
