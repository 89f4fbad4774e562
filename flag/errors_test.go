package flag_test

import (
	"math"
	"slices"
	"testing"

	"dipworks/api"
	"dipworks/flag"
)

// call is a call of one of the functions: its error, and whether all other results are zero values.
type call struct {
	name   string
	takes  int  // How many hours it takes.
	truths bool // Whether there has to be a truth.
	do     func(f api.Flag, from, to int) (api.Errno, bool)
}

func calls() []call {
	return []call{
		{"Kinds", 1, false, func(f api.Flag, hour, _ int) (api.Errno, bool) {
			n, e := flag.Kinds(f, hour)
			return e, n == 0
		}},
		{"Up", 0, true, func(f api.Flag, _, _ int) (api.Errno, bool) {
			a, b, e := flag.Up(f)
			return e, a == 0 && b == 0
		}},
		{"Count", 0, false, func(f api.Flag, _, _ int) (api.Errno, bool) {
			n, e := flag.Count(f)
			return e, n == 0
		}},
		{"Long", 0, true, func(f api.Flag, _, _ int) (api.Errno, bool) {
			s, e := flag.Long(f)
			return e, s == span(0, 0)
		}},
		{"Under", 2, true, func(f api.Flag, from, to int) (api.Errno, bool) {
			n, e := flag.Under(f, from, to)
			return e, n == 0
		}},
		{"Down", 1, true, func(f api.Flag, from, _ int) (api.Errno, bool) {
			n, e := flag.Down(f, from)
			return e, n == 0
		}},
		{"Ask", 0, true, func(f api.Flag, _, _ int) (api.Errno, bool) {
			n, many, e := flag.Ask(f)
			return e, n == 0 && many == 0
		}},
		{"Wrong", 0, false, func(f api.Flag, _, _ int) (api.Errno, bool) {
			n, e := flag.Wrong(f)
			return e, n == 0
		}},
	}
}

const low, high = math.MinInt, math.MaxInt

// named is a flag with a name.
type named struct {
	name string
	f    api.Flag
}

func changed(name string, change func(f *api.Flag)) named {
	f := flagG()
	change(&f)
	return named{name, f}
}

// invalid are flags that are not valid, each for one reason.
func invalid() []named {
	list := []named{{"nothing", api.Flag{}}}
	add := func(name string, change func(f *api.Flag)) {
		list = append(list, changed(name, change))
	}
	for _, n := range []int{low, -1, 0, 9, 12, 13, high} {
		add("low", func(f *api.Flag) { f.Low = n })
	}
	for _, n := range []int{low, -1, 0, 3, 13, 14, high} {
		add("high", func(f *api.Flag) { f.High = n })
	}
	for _, s := range []api.Span{span(0, 0), span(0, 8), span(13, 13), span(-1, -1), span(low, high), span(high, low), span(2, 1), span(12, 11)} {
		add("low and high", func(f *api.Flag) { f.Low, f.High = s.Lo, s.Hi })
	}
	for _, n := range []int{low, -1, 0, 5, 6, high} {
		add("quiet", func(f *api.Flag) { f.Quiet = n })
	}
	for _, many := range []int{10, 11, 1000} {
		add("hours", func(f *api.Flag) { f.Hours = slices.Repeat(f.Hours[:1], many) })
	}
	for _, many := range []int{9, 10, 1000} {
		add("seen", func(f *api.Flag) { f.Seen = slices.Repeat(f.Seen, many) })
	}
	for n := range 6 {
		for _, wind := range []api.Span{span(-1, -1), span(-1, 0), span(-1, 12), span(low, 3), span(low, low), span(1, 0), span(12, 11), span(12, 0), span(0, 13), span(12, 13), span(13, 13), span(13, 12), span(3, high), span(high, high), span(low, high), span(high, low)} {
			add("wind", func(f *api.Flag) { f.Hours[n].Wind = wind })
		}
		for _, thunder := range []int{low, -2, -1, 3, 4, high} {
			add("thunder", func(f *api.Flag) { f.Hours[n].Thunder = thunder })
		}
	}
	for _, hour := range []int{low, -1, 6, 7, 9, high} {
		for n := range 3 {
			add("an hour that was seen", func(f *api.Flag) {
				f.Seen = []api.FlagSeen{up(3), up(3), up(3)}
				f.Seen[n].Hour = hour
			})
		}
		add("an hour that was seen down", func(f *api.Flag) { f.Seen[0] = down(hour) })
	}
	add("seen without hours", func(f *api.Flag) { f.Hours, f.Seen = nil, []api.FlagSeen{down(0)} })
	add("seen in an hour that is no more", func(f *api.Flag) { f.Hours = f.Hours[:3] })
	return list
}

// limits are flags that go as far as they may.
func limits() []named {
	return []named{
		{"no hours", exact(1, "")}, {"nine hours", whole(1)}, {"seen eight times", whole(1, slices.Repeat([]api.FlagSeen{up(8)}, 8)...)}, {"seen in the first hour", whole(1, down(0))}, {"the last one seen", flagF(down(5))},
		changed("the lowest", func(f *api.Flag) { f.Low, f.High = 1, 1 }), changed("the highest", func(f *api.Flag) { f.Low, f.High, f.Seen = 12, 12, nil }), changed("low and high", func(f *api.Flag) { f.Low, f.High, f.Seen = 1, 12, nil }), changed("low is high", func(f *api.Flag) { f.Low = 8 }), changed("the most quiet", func(f *api.Flag) { f.Quiet = 4 }), changed("the least quiet", func(f *api.Flag) { f.Quiet, f.Seen = 1, nil }),
		changed("no wind", func(f *api.Flag) { f.Hours[0] = hour(0, 0, 0) }), changed("the most wind", func(f *api.Flag) { f.Hours[0] = hour(12, 12, 0) }), changed("any wind", func(f *api.Flag) { f.Hours[0] = hour(0, 12, 1) }), changed("thunder", func(f *api.Flag) { f.Hours[5] = hour(0, 12, 2) }),
	}
}

// ErrArg comes first, whatever else is wrong, and with it there is no other result.
func TestInvalidFlags(t *testing.T) {
	for i, x := range invalid() {
		for _, c := range calls() {
			for _, n := range []api.Span{span(0, 1), span(3, 3), span(-1, 0), span(6, 7), span(low, high), span(high, low), span(high, high), span(2, 9)} {
				if e, zero := c.do(x.f, n.Lo, n.Hi); e != api.ErrArg || !zero {
					t.Error(i, x.name, c.name, n, e, zero)
				}
			}
		}
	}
}

// Flags that go as far as they may are valid.
func TestLimits(t *testing.T) {
	for _, x := range limits() {
		for _, c := range calls() {
			e, _ := c.do(x.f, len(x.f.Hours)-1, len(x.f.Hours))
			if len(x.f.Hours) == 0 && c.takes > 0 {
				if e != api.ErrRange {
					t.Error(x.name, c.name, e)
				}
				continue
			}
			if e != api.OK && !(e == api.ErrNone && (c.name == "Down" || c.name == "Wrong")) && !(e == api.ErrRefuse && c.name == "Ask") {
				t.Error(x.name, c.name, e)
			}
		}
	}
}

// ErrRange comes just beyond the hours, of what a function takes alone; and before ErrClash and what else there is.
func TestRanges(t *testing.T) {
	for _, f := range []api.Flag{flagF(), flagG(), flagN(), exact(1, "ssssss"), exact(1, "cccccc")} {
		for _, c := range calls() {
			for _, n := range []int{low, low + 1, -2, -1, 6, 7, 9, high - 1, high} {
				for _, to := range []int{n, n + 1, 3, 6} { // The sum may be the least number of all.
					if e, zero := c.do(f, n, to); (e == api.ErrRange) != (c.takes > 0) || c.takes > 0 && !zero {
						t.Error(c.name, f, n, to, e, zero)
					}
				}
			}
			for from := range 6 {
				for _, to := range []int{low, -1, 0, from - 1, from, 7, 8, high} {
					if e, zero := c.do(f, from, to); (e == api.ErrRange) != (c.takes > 1) || c.takes > 1 && !zero {
						t.Error(c.name, f, from, to, e, zero)
					}
				}
				for to := from + 1; to <= 6; to++ {
					if e, _ := c.do(f, from, to); e == api.ErrRange {
						t.Error(c.name, f, from, to, e)
					}
				}
			}
		}
	}
}

// ErrClash comes before what else there is, if there is no truth; but Kinds, Count and Wrong have results.
func TestNoTruth(t *testing.T) {
	for _, f := range []api.Flag{flagN(), vague(1, "c", up(0)), flagF(up(3), down(3)), whole(4, up(0), down(3)), vague(1, "s", down(0)), flagF(up(0), up(1), up(2))} {
		for _, c := range calls() {
			e, zero := c.do(f, 0, len(f.Hours))
			if c.truths && (e != api.ErrClash || !zero) || !c.truths && e != api.OK {
				t.Error(c.name, f, e, zero)
			}
		}
	}
}

// R3: nil lists and empty ones are the same; a flag without hours has one truth, in which it never was up.
func TestNoHours(t *testing.T) {
	for _, hours := range [][]api.FlagHour{nil, {}} {
		for _, seen := range [][]api.FlagSeen{nil, {}} {
			f := api.Flag{Low: 4, High: 8, Quiet: 2, Hours: hours, Seen: seen}
			checkUp(t, f, 0, 0, api.OK)
			checkCount(t, f, 1)
			checkLong(t, f, span(0, 0), api.OK)
			checkAsk(t, f, 0, 0, api.ErrRefuse)
			checkWrong(t, f, api.ErrNone)
			checkDown(t, f, 0, 0, api.ErrRange)
			checkUnder(t, f, 0, 1, 0, api.ErrRange)
			checkUnder(t, f, 0, 0, 0, api.ErrRange)
			if n, e := flag.Kinds(f, 0); n != 0 || e != api.ErrRange {
				t.Error("Kinds", n, e)
			}
			f.Hours = flagF().Hours
			checkUp(t, f, 0, 62, api.OK)
		}
	}
}

// R4 and P10.8: no argument is changed, nor what lies behind it in memory.
func TestArgumentsStay(t *testing.T) {
	for _, f := range []api.Flag{flagF(), flagG(), flagN(), whole(4, up(0), down(1), up(2), down(3), up(4), down(5)), exact(1, "")} {
		hours, seen := append(slices.Clone(f.Hours), hour(1, 2, 1), hour(3, 4, 2)), append(slices.Clone(f.Seen), up(7), down(8))
		sameHours, sameSeen := slices.Clone(hours), slices.Clone(seen)
		f.Hours, f.Seen = hours[:len(f.Hours)], seen[:len(f.Seen)]
		for _, c := range calls() {
			c.do(f, 0, len(f.Hours))
			if !slices.Equal(hours, sameHours) || !slices.Equal(seen, sameSeen) {
				t.Fatal(c.name, hours, seen)
			}
		}
	}
}

// Nothing is kept from call to call: after a call with an error, or of another flag, all is as it was.
func TestCallsKnowNothingOfOneAnother(t *testing.T) {
	for range 2 {
		TestExamples(t)
		for _, c := range calls() {
			c.do(api.Flag{}, 0, 1)
			c.do(flagN(), -1, 9)
			c.do(whole(3, up(2), down(2)), 3, 9)
			c.do(whole(1), 3, 9)
		}
	}
}
