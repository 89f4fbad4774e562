package towel

import "dipworks/api"

// valid returns whether towels are valid.
func valid(t api.Towels) bool {
	if len(t.Huts) > api.TowelHuts || len(t.Halves) > api.TowelHalves || len(t.Bathers) > api.TowelBathers {
		return false
	}
	for _, list := range [][]api.Span{t.Huts, t.Halves} {
		for _, s := range list {
			if !isWithin(s, api.TowelMissing) {
				return false
			}
		}
	}
	for _, x := range t.Bathers {
		if !isOf(t.Huts, x.Hut) || !isOf(t.Halves, x.Half) || !areWords(x) {
			return false
		}
	}
	return apart(looked{t, every{}})
}

// isWithin returns whether a span is one within 0 to the most.
func isWithin(s api.Span, most int) bool {
	return 0 <= s.Lo && s.Lo <= s.Hi && s.Hi <= most
}

// isOf returns whether a number is that of an element.
func isOf[T any](list []T, n int) bool {
	return 0 <= n && n < len(list)
}

// areWords returns whether somebody can have been lent and have given back so many.
func areWords(x api.TowelBather) bool {
	return isWithin(x.Lent, api.TowelLent) && isWithin(x.Back, api.TowelLent) && x.Back.Lo <= x.Lent.Hi
}

// apart returns whether no two bathers have the same hut and the same half hour.
func apart(l looked) bool {
	apart := true
look:
	for n, a := range l.bathers {
		for m, b := range l.bathers {
			if m == n {
				continue look // Those behind are compared with this one in their turn.
			}
			if a.Hut == b.Hut && a.Half == b.Half {
				apart = false
				break look
			}
		}
	}
	return apart
}
