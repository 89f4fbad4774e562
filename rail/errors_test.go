package rail_test

import (
	"math"
	"slices"
	"testing"

	"dipworks/api"
	"dipworks/rail"
)

// argument is one that a function takes beside the rail: what it can be at most, and at least.
type argument func(r api.Rail) (least, most int)

func aLine(r api.Rail) (int, int)   { return 0, len(r.Lines) - 1 }
func anHour(r api.Rail) (int, int)  { return 0, r.Hours }
func someMany(api.Rail) (int, int)  { return 0, 60 }
func someWet(api.Rail) (int, int)   { return 1, 8 }
func aBather(r api.Rail) (int, int) { return 0, len(r.Towels.Bathers) - 1 }

// call is a function, what it takes, whether it needs a truth of the towels, and what it does: its error, and whether all else is zero.
type call struct {
	name   string
	takes  []argument
	truths bool
	do     func(r api.Rail, a, b int) (api.Errno, bool)
}

func calls() []call {
	return []call{
		{"Dry", []argument{aLine}, false, func(r api.Rail, a, _ int) (api.Errno, bool) {
			s, e := rail.Dry(r, a)
			return e, s == span(0, 0)
		}},
		{"Wet", []argument{anHour}, false, func(r api.Rail, a, _ int) (api.Errno, bool) {
			s, e := rail.Wet(r, a)
			return e, s == span(0, 0)
		}},
		{"Latest", []argument{someWet, anHour}, false, func(r api.Rail, a, b int) (api.Errno, bool) {
			n, e := rail.Latest(r, a, b)
			return e, n == 0
		}},
		{"Ready", []argument{anHour}, true, func(r api.Rail, a, _ int) (api.Errno, bool) {
			s, e := rail.Ready(r, a)
			return e, s == span(0, 0)
		}},
		{"Enough", []argument{anHour, someMany}, true, func(r api.Rail, a, b int) (api.Errno, bool) {
			n, e := rail.Enough(r, a, b)
			return e, n == 0
		}},
		{"When", []argument{someMany}, true, func(r api.Rail, a, _ int) (api.Errno, bool) {
			n, e := rail.When(r, a)
			return e, n == 0
		}},
		{"Buy", []argument{anHour, someMany}, true, func(r api.Rail, a, b int) (api.Errno, bool) {
			n, e := rail.Buy(r, a, b)
			return e, n == 0
		}},
		{"Owes", []argument{aBather}, true, func(r api.Rail, a, _ int) (api.Errno, bool) {
			s, e := rail.Owes(r, a)
			return e, s == span(0, 0)
		}},
	}
}

// such returns whether the arguments are what the function takes.
func (c call) such(r api.Rail, a, b int) bool {
	for i, takes := range c.takes {
		least, most := takes(r)
		if n := []int{a, b}[i]; n < least || most < n {
			return false
		}
	}
	return true
}

const low, high = math.MinInt, math.MaxInt

// named is a rail with a name.
type named struct {
	name string
	r    api.Rail
}

func changed(name string, change func(r *api.Rail)) named {
	r := railR()
	change(&r)
	return named{name, r}
}

// invalid are rails that are not valid, each for one reason.
func invalid() []named {
	list := []named{{"nothing", api.Rail{}}}
	add := func(name string, change func(r *api.Rail)) {
		list = append(list, changed(name, change))
	}
	for _, n := range []int{low, -2, -1, 61, 62, high} {
		add("stock", func(r *api.Rail) { r.Stock = n })
	}
	for _, n := range []int{low, -1, 0, 13, 14, 64, high} {
		add("hours", func(r *api.Rail) { r.Hours, r.Sun, r.Rain, r.Perhaps, r.Lines = n, 0, 0, 0, nil })
	}
	add("hours that are no more, of the sun", func(r *api.Rail) { r.Hours, r.Rain, r.Lines = 3, 0, nil })
	add("hours that are no more, of rain", func(r *api.Rail) { r.Hours, r.Lines = 4, nil })
	add("hours that are no more, of a line", func(r *api.Rail) { r.Hours, r.Sun, r.Rain = 3, 0, 0 })
	for _, n := range []int{low, -1, 21, 22, high} {
		add("price", func(r *api.Rail) { r.Price = n })
	}
	for _, n := range []int{low, low + 1, -256, -1, 256, 257, 1 << 12, 1 << 62, high} {
		add("sun", func(r *api.Rail) { r.Sun = n })
		add("rain", func(r *api.Rail) { r.Rain = n })
		add("perhaps", func(r *api.Rail) { r.Perhaps = n })
	}
	for _, many := range []int{5, 6, 1000} {
		add("lines", func(r *api.Rail) { r.Lines = slices.Repeat(r.Lines[:1], many) })
	}
	for n := range 4 {
		four := func(r *api.Rail) *api.RailLine {
			r.Lines = slices.Repeat(r.Lines[1:], 4)
			return &r.Lines[n]
		}
		for _, many := range []int{low, -1, 0, 7, 8, high} {
			add("many", func(r *api.Rail) { four(r).Many = many })
		}
		for _, at := range []int{low, -1, 8, 9, 12, high} {
			add("at", func(r *api.Rail) { four(r).At = at })
		}
		for _, wet := range []api.Span{span(0, 0), span(0, 1), span(0, 8), span(-1, 3), span(2, 1), span(8, 7), span(8, 1), span(1, 9), span(8, 9), span(9, 9), span(9, 8), span(low, 3), span(low, low), span(3, high), span(high, high), span(low, high), span(high, low)} {
			add("wet", func(r *api.Rail) { four(r).Wet = wet })
		}
	}
	addTowels(add)
	return list
}

// addTowels adds rails of which the towels are not valid.
func addTowels(add func(name string, change func(r *api.Rail))) {
	add("a hut", func(r *api.Rail) { r.Towels.Bathers[0].Hut = 2 })
	add("a half hour", func(r *api.Rail) { r.Towels.Bathers[3].Half = -1 })
	add("no huts", func(r *api.Rail) { r.Towels.Huts = nil })
	add("the same hut and half hour", func(r *api.Rail) { r.Towels.Bathers[1].Half = 0 })
	add("lent", func(r *api.Rail) { r.Towels.Bathers[2].Lent = span(1, 5) })
	add("back", func(r *api.Rail) { r.Towels.Bathers[2].Back = span(-1, 1) })
	add("more back than lent", func(r *api.Rail) { r.Towels.Bathers[2].Back = span(2, 2) })
	add("a count of a hut", func(r *api.Rail) { r.Towels.Huts[1] = span(2, 1) })
	add("a count of a half hour", func(r *api.Rail) { r.Towels.Halves[0] = span(0, 25) })
	add("bathers", func(r *api.Rail) { r.Towels.Bathers = slices.Repeat(r.Towels.Bathers, 2) })
	add("huts", func(r *api.Rail) { r.Towels.Huts = slices.Repeat(r.Towels.Huts, 2) })
	add("halves", func(r *api.Rail) { r.Towels.Halves = slices.Repeat(r.Towels.Halves, 2) })
}

// limits are rails that go as far as they may.
func limits() []named {
	list := []named{
		{"nothing but an hour", api.Rail{Hours: 1}},
		changed("no stock", func(r *api.Rail) { r.Stock = 0 }), changed("the most stock", func(r *api.Rail) { r.Stock = 60 }),
		changed("no price", func(r *api.Rail) { r.Price = 0 }), changed("the highest price", func(r *api.Rail) { r.Price = 20 }),
		changed("no lines", func(r *api.Rail) { r.Lines = nil }), changed("four lines", func(r *api.Rail) { r.Lines = slices.Repeat(r.Lines, 2) }),
		changed("twelve hours", func(r *api.Rail) { r.Hours, r.Sun, r.Rain, r.Perhaps = 12, 4095, 4095, 4095 }), changed("all hours of the sun", func(r *api.Rail) { r.Sun = 255 }), changed("all hours of rain", func(r *api.Rail) { r.Rain = 255 }), changed("all hours perhaps", func(r *api.Rail) { r.Perhaps = 255 }), changed("no hours of anything", func(r *api.Rail) { r.Sun, r.Rain, r.Perhaps = 0, 0, 0 }),
		changed("one hour", func(r *api.Rail) { r.Hours, r.Sun, r.Rain, r.Perhaps, r.Lines = 1, 1, 1, 1, r.Lines[:1] }),
		changed("no towels", func(r *api.Rail) { r.Towels = api.Towels{} }), changed("towels without bathers", func(r *api.Rail) { r.Towels = api.Towels{Huts: []api.Span{span(0, 24)}} }), changed("towels that clash", func(r *api.Rail) { r.Towels = railN().Towels }),
	}
	for n := range 2 {
		list = append(list, changed("few", func(r *api.Rail) { r.Lines[n].Many = 1 }), changed("many", func(r *api.Rail) { r.Lines[n].Many = 6 }), changed("early", func(r *api.Rail) { r.Lines[n].At = 0 }), changed("late", func(r *api.Rail) { r.Lines[n].At = 7 }), changed("hardly wet", func(r *api.Rail) { r.Lines[n].Wet = span(1, 1) }), changed("wet through", func(r *api.Rail) { r.Lines[n].Wet = span(8, 8) }), changed("anything", func(r *api.Rail) { r.Lines[n].Wet = span(1, 8) }))
	}
	return list
}

// ErrArg comes first, whatever else is wrong, and with it there is no other result.
func TestInvalidRails(t *testing.T) {
	for i, x := range invalid() {
		for _, c := range calls() {
			for _, n := range []api.Span{span(0, 0), span(1, 1), span(3, 7), span(-1, -1), span(0, 61), span(9, 9), span(low, high), span(high, low), span(high, high)} {
				if e, zero := c.do(x.r, n.Lo, n.Hi); e != api.ErrArg || !zero {
					t.Error(i, x.name, c.name, n, e, zero)
				}
			}
		}
	}
}

// What the functions answer if the rail and all arguments are such: a result, or the error that is named.
func checkSuch(t *testing.T, x named, c call, a, b int) {
	t.Helper()
	e, zero := c.do(x.r, a, b)
	if e != api.OK && !zero {
		t.Error(x.name, c.name, a, b, e)
	}
	switch {
	case e == api.OK, e == api.ErrRefuse && c.name == "Dry", e == api.ErrNone && (c.name == "Latest" || c.name == "When"):
	default:
		t.Error(x.name, c.name, a, b, e)
	}
}

// Rails that go as far as they may are valid, and all arguments that are such have results; just beyond them is ErrRange.
func TestLimits(t *testing.T) {
	numbers := []int{-2, -1, 0, 1, 2, 3, 4, 5, 7, 8, 9, 11, 12, 13, 59, 60, 61, 62}
	for _, x := range limits() {
		clash := x.name == "towels that clash"
		for _, c := range calls() {
			for _, a := range numbers {
				for _, b := range numbers {
					switch such := c.such(x.r, a, b); {
					case such && clash && c.truths:
						if e, zero := c.do(x.r, a, b); e != api.ErrClash || !zero {
							t.Error(x.name, c.name, a, b, e, zero)
						}
					case such:
						checkSuch(t, x, c, a, b)
					default:
						if e, zero := c.do(x.r, a, b); e != api.ErrRange || !zero {
							t.Error(x.name, c.name, a, b, e, zero)
						}
					}
					if len(c.takes) == 1 {
						break // The second number makes no difference.
					}
				}
			}
		}
	}
}

// ErrRange comes before ErrClash and what else there is, whichever argument is wrong.
func TestRanges(t *testing.T) {
	wrong := []int{low, low + 1, -1, 61, high - 1, high}
	for _, r := range []api.Rail{railR(), railN(), sky(0, "r", line(1, 0, 8, 8))} {
		for _, c := range calls() {
			for _, n := range wrong {
				for _, m := range append([]int{0, 1}, wrong...) {
					pairs := [][2]int{{n, m}}
					if len(c.takes) > 1 {
						pairs = append(pairs, [2]int{m, n})
					}
					for _, p := range pairs {
						if e, zero := c.do(r, p[0], p[1]); e != api.ErrRange || !zero {
							t.Error(c.name, r, p, e, zero)
						}
					}
				}
			}
		}
	}
}

// ErrClash comes before what else there is, if the towels have no truth; but Dry, Wet and Latest do not look at them.
func TestNoTruth(t *testing.T) {
	clash := railN()
	checkDry(t, clash, 0, span(3, 4), api.OK)
	checkDry(t, clash, 1, span(4, 4), api.OK)
	checkWet(t, clash, 3, span(4, 9))
	checkLatest(t, clash, 4, 6, 2, api.OK)
	checkLatest(t, clash, 4, 2, 0, api.ErrNone)
	clash.Lines[0].Wet = span(1, 8)
	checkDry(t, clash, 0, span(1, 8), api.OK)
	clash.Rain = 255
	checkDry(t, clash, 0, span(0, 0), api.ErrRefuse)
	for many := range 61 {
		checkWhen(t, clash, many, 0, api.ErrClash)
		for hour := range 9 {
			checkReady(t, clash, hour, span(0, 0), api.ErrClash)
			checkEnough(t, clash, hour, many, 0, api.ErrClash)
			checkBuy(t, clash, hour, many, 0, api.ErrClash)
		}
	}
	for bather := range 4 {
		checkOwes(t, clash, bather, span(0, 0), api.ErrClash)
	}
	nobody := api.Rail{Towels: api.Towels{Huts: []api.Span{span(1, 1)}}, Stock: 9, Hours: 1}
	checkReady(t, nobody, 0, span(0, 0), api.ErrClash)
	checkWet(t, nobody, 0, span(0, 0))
	checkOwes(t, nobody, 0, span(0, 0), api.ErrRange)
}

// R3: nil lists and empty ones are the same; without lines nothing is wet, without bathers nothing is kept.
func TestNoLines(t *testing.T) {
	for _, lines := range [][]api.RailLine{nil, {}} {
		for _, kept := range []api.Towels{{}, {Bathers: []api.TowelBather{}, Huts: []api.Span{}, Halves: []api.Span{}}} {
			r := api.Rail{Towels: kept, Stock: 7, Hours: 2, Lines: lines, Price: 3}
			checkDry(t, r, 0, span(0, 0), api.ErrRange)
			checkOwes(t, r, 0, span(0, 0), api.ErrRange)
			checkWhen(t, r, 7, 0, api.OK)
			checkWhen(t, r, 8, 0, api.ErrNone)
			for hour := range 3 {
				checkWet(t, r, hour, span(0, 0))
				checkReady(t, r, hour, span(7, 7), api.OK)
				checkEnough(t, r, hour, 7, api.RailAlways, api.OK)
				checkBuy(t, r, hour, 9, 2, api.OK)
			}
		}
	}
}

// R4: no argument is changed, nor what lies behind it in memory.
func TestArgumentsStay(t *testing.T) {
	for _, r := range []api.Rail{railR(), railN(), sky(9, "cpcc", line(6, 3, 1, 1), line(1, 0, 3, 4), line(5, 2, 1, 2), line(2, 0, 1, 1))} {
		lines, same := longer(r.Lines, line(1, 0, 1, 1))
		bathers, sameBathers := longer(r.Towels.Bathers, bather(1, 1, span(1, 1), span(0, 0)))
		huts, sameHuts := longer(r.Towels.Huts, span(0, 3))
		halves, sameHalves := longer(r.Towels.Halves, span(0, 3))
		r.Lines = lines[:len(r.Lines)]
		r.Towels = api.Towels{Bathers: bathers[:len(r.Towels.Bathers)], Huts: huts[:len(r.Towels.Huts)], Halves: halves[:len(r.Towels.Halves)]}
		for _, c := range calls() {
			for n := range 5 {
				c.do(r, n, n)
				if !slices.Equal(lines, same) || !slices.Equal(bathers, sameBathers) || !slices.Equal(huts, sameHuts) || !slices.Equal(halves, sameHalves) {
					t.Fatal(c.name, lines, bathers, huts, halves)
				}
			}
		}
	}
}

// longer is a list with something behind it, and the same again.
func longer[T any](list []T, behind T) (all, same []T) {
	all = append(slices.Clone(list), behind, behind)
	return all, slices.Clone(all)
}

// Nothing is kept from call to call: after a call with an error, or of another rail, all is as it was.
func TestCallsKnowNothingOfOneAnother(t *testing.T) {
	for range 2 {
		TestExamples(t)
		for _, c := range calls() {
			c.do(api.Rail{}, 0, 1)
			c.do(railN(), 0, 7)
			c.do(railR(), -1, 61)
			c.do(sky(1, "rrrrrrrr", line(6, 0, 8, 8), line(6, 7, 8, 8)), 1, 1)
		}
	}
}
