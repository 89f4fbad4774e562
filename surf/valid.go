package surf

import "dipworks/api"

// valid returns whether a surf is valid.
func valid(s api.Surf) bool {
	if !within(s.Rows, 1, api.SurfRows) || !within(s.Step, 0, api.SurfStep) {
		return false
	}
	if len(s.Water) > api.SurfHours || len(s.Waves) != len(s.Water) || len(s.Huts) > api.SurfHuts {
		return false
	}
	for hour := range s.Water {
		if !narrow(s.Water[hour], api.SurfWater) || !narrow(s.Waves[hour], api.SurfWaves) {
			return false
		}
	}
	for _, hut := range s.Huts {
		if !within(hut.Floor, 0, api.SurfFloor) || !within(hut.Brake, 0, api.SurfWaves) || !within(hut.Row, 0, s.Rows-1) {
			return false
		}
	}
	return true
}

// narrow returns whether a span can be that of a height that is at most most.
func narrow(s api.Span, most int) bool {
	// The ends come first, as the difference of any two numbers need not be a number.
	return within(s.Lo, 0, most) && within(s.Hi, 0, most) && within(s.Hi-s.Lo, 0, api.SurfWide)
}

// within returns whether n is from lo to hi.
func within(n, lo, hi int) bool {
	return lo <= n && n <= hi
}
