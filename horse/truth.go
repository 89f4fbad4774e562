package horse

import "dipworks/api"

// truth is how many minutes moves take. Of all truths only two matter: if a move takes longer no other one can follow it sooner, no other one begins earlier, and it is under way no shorter.
type truth interface {
	takes(m api.HorseMove) int
}

// fastest is the truth in which no move takes longer than it must.
type fastest struct{}

func (fastest) takes(m api.HorseMove) int {
	return m.Long.Lo
}

// slowest is the truth in which each move takes as long as it can.
type slowest struct{}

func (slowest) takes(m api.HorseMove) int {
	return m.Long.Hi
}

// truthOf returns the truth that decides what can be: surely, if it can be in the slowest one, or perhaps, if it can be in the fastest one.
func truthOf(sure bool) truth {
	if sure {
		return slowest{}
	}
	return fastest{}
}
