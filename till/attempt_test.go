package till

import (
	"testing"

	"dipworks/api"
)

// P1: no panic leaves the package, and rule R2: with an error a result is its zero value.
func TestAttempt(t *testing.T) {
	for i, x := range []struct {
		work func() int
		n    int
		e    api.Errno
	}{
		{func() int { return 7 }, 7, api.OK},
		{func() int { require(true, api.ErrRange); return 7 }, 7, api.OK},
		{func() int { require(false, api.ErrRange); return 7 }, 0, api.ErrRange},
		{func() int { panic("unforeseen") }, 0, api.ErrArg},
		{func() int { var none []int; return none[1] }, 0, api.ErrArg},
	} {
		if n, e := attempt(x.work); n != x.n || e != x.e {
			t.Error(i, n, e)
		}
	}
}
