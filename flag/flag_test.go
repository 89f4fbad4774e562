package flag_test

import (
	"slices"
	"testing"

	"dipworks/api"
	"dipworks/flag"
)

func span(lo, hi int) api.Span { return api.Span{Lo: lo, Hi: hi} }

func hour(lo, hi, thunder int) api.FlagHour {
	return api.FlagHour{Wind: span(lo, hi), Thunder: thunder}
}

func up(hour int) api.FlagSeen   { return api.FlagSeen{Hour: hour, Up: true} }
func down(hour int) api.FlagSeen { return api.FlagSeen{Hour: hour} }

func setOf(elements ...int) (set int) {
	for _, n := range elements {
		set |= 1 << n
	}
	return set
}

// flagF, flagG and flagN are those of the examples.
func flagF(seen ...api.FlagSeen) api.Flag {
	return api.Flag{Low: 4, High: 8, Quiet: 2, Hours: []api.FlagHour{hour(2, 3, 0), hour(7, 8, 0), hour(3, 3, 1), hour(2, 4, 0), hour(1, 1, 0), hour(5, 5, 0)}, Seen: seen}
}

func flagG() api.Flag { return flagF(up(3)) }
func flagN() api.Flag { return flagF(up(1), down(2)) }

// exact is a flag of which all is known: each hour is calm (c), between (b), stormy (s), or calm with thunder (t).
func exact(quiet int, hours string) api.Flag { return vague(quiet, hours) }

// vague is a flag of hours as above, or such that they are calm or between (x), between or stormy (y), calm or stormy (z), or of any kind (?).
func vague(quiet int, hours string, seen ...api.FlagSeen) api.Flag {
	f := api.Flag{Low: 4, High: 8, Quiet: quiet, Seen: seen}
	for _, h := range hours {
		f.Hours = append(f.Hours, map[rune]api.FlagHour{'c': hour(3, 3, 0), 'b': hour(5, 5, 0), 's': hour(8, 8, 0), 't': hour(3, 3, 2), 'x': hour(3, 4, 0), 'y': hour(7, 8, 0), 'z': hour(3, 3, 1), '?': hour(0, 12, 0)}[h])
	}
	return f
}

// whole is a flag with as many hours as there may be, all of any kind.
func whole(quiet int, seen ...api.FlagSeen) api.Flag { return vague(quiet, "?????????", seen...) }

func checkKinds(t *testing.T, f api.Flag, hour int, kinds ...int) {
	t.Helper()
	if n, e := flag.Kinds(f, hour); n != setOf(kinds...) || e != api.OK {
		t.Error("Kinds", f, hour, n, e, kinds)
	}
}

func checkUp(t *testing.T, f api.Flag, surely, perhaps int, want api.Errno) {
	t.Helper()
	if a, b, e := flag.Up(f); a != surely || b != perhaps || e != want {
		t.Error("Up", f, a, b, e, surely, perhaps, want)
	}
}

func checkCount(t *testing.T, f api.Flag, count int) {
	t.Helper()
	if n, e := flag.Count(f); n != count || e != api.OK {
		t.Error("Count", f, n, e, count)
	}
}

func checkLong(t *testing.T, f api.Flag, long api.Span, want api.Errno) {
	t.Helper()
	if s, e := flag.Long(f); s != long || e != want {
		t.Error("Long", f, s, e, long, want)
	}
}

func checkUnder(t *testing.T, f api.Flag, from, to, under int, want api.Errno) {
	t.Helper()
	if n, e := flag.Under(f, from, to); n != under || e != want {
		t.Error("Under", f, from, to, n, e, under, want)
	}
}

func checkDown(t *testing.T, f api.Flag, from, hour int, want api.Errno) {
	t.Helper()
	if n, e := flag.Down(f, from); n != hour || e != want {
		t.Error("Down", f, from, n, e, hour, want)
	}
}

func checkAsk(t *testing.T, f api.Flag, hour, left int, want api.Errno) {
	t.Helper()
	if n, many, e := flag.Ask(f); n != hour || many != left || e != want {
		t.Error("Ask", f, n, many, e, hour, left, want)
	}
}

func checkWrong(t *testing.T, f api.Flag, want api.Errno, seen ...int) {
	t.Helper()
	if n, e := flag.Wrong(f); n != setOf(seen...) || e != want {
		t.Error("Wrong", f, n, e, seen, want)
	}
}

// The examples of the chapter, and that of the document.
func TestExamples(t *testing.T) {
	f, g, n := flagF(), flagG(), flagN()
	checkKinds(t, f, 1, 1, 2)
	checkKinds(t, f, 2, 0, 2)
	checkKinds(t, f, 3, 0, 1)
	checkUp(t, f, 0, 62, api.OK)
	checkUp(t, g, 12, 62, api.OK)
	checkUp(t, n, 0, 0, api.ErrClash)
	checkCount(t, f, 8)
	checkCount(t, g, 6)
	checkCount(t, n, 0)
	checkLong(t, f, span(0, 5), api.OK)
	checkLong(t, g, span(3, 5), api.OK)
	checkUnder(t, g, 3, 4, api.FlagAlways, api.OK)
	checkUnder(t, g, 4, 6, api.FlagPerhaps, api.OK)
	checkUnder(t, g, 0, 1, api.FlagNever, api.OK)
	checkDown(t, g, 0, 0, api.OK)
	checkDown(t, g, 2, 0, api.ErrNone)
	checkAsk(t, g, 3, 3, api.OK)
	checkWrong(t, n, api.OK, 0)
	checkWrong(t, g, api.ErrNone)
}

// P10.1: by the wind, from Low and from High on, and by thunder; what was seen is not looked at.
func TestKinds(t *testing.T) {
	for _, x := range []struct {
		low, high int
		hour      api.FlagHour
		kinds     []int
	}{
		{4, 8, hour(0, 0, 0), []int{0}}, {4, 8, hour(0, 3, 0), []int{0}}, {4, 8, hour(3, 3, 0), []int{0}}, {4, 8, hour(4, 4, 0), []int{1}}, {4, 8, hour(4, 7, 0), []int{1}}, {4, 8, hour(7, 7, 0), []int{1}}, {4, 8, hour(8, 8, 0), []int{2}}, {4, 8, hour(8, 12, 0), []int{2}}, {4, 8, hour(12, 12, 0), []int{2}},
		{4, 8, hour(3, 4, 0), []int{0, 1}}, {4, 8, hour(7, 8, 0), []int{1, 2}}, {4, 8, hour(3, 8, 0), []int{0, 1, 2}}, {4, 8, hour(0, 12, 0), []int{0, 1, 2}}, {4, 8, hour(0, 7, 0), []int{0, 1}}, {4, 8, hour(4, 12, 0), []int{1, 2}},
		// Perhaps it thundered, or it did.
		{4, 8, hour(0, 3, 1), []int{0, 2}}, {4, 8, hour(4, 7, 1), []int{1, 2}}, {4, 8, hour(8, 12, 1), []int{2}}, {4, 8, hour(3, 4, 1), []int{0, 1, 2}}, {4, 8, hour(0, 0, 2), []int{2}}, {4, 8, hour(0, 12, 2), []int{2}}, {4, 8, hour(4, 4, 2), []int{2}}, {4, 8, hour(12, 12, 2), []int{2}},
		// Nothing is between, or one wind alone, or all but the ends.
		{4, 4, hour(0, 12, 0), []int{0, 2}}, {4, 4, hour(3, 3, 0), []int{0}}, {4, 4, hour(4, 4, 0), []int{2}}, {4, 5, hour(4, 4, 0), []int{1}}, {4, 5, hour(3, 5, 0), []int{0, 1, 2}}, {1, 12, hour(0, 0, 0), []int{0}}, {1, 12, hour(1, 11, 0), []int{1}}, {1, 12, hour(12, 12, 0), []int{2}}, {1, 12, hour(0, 12, 0), []int{0, 1, 2}}, {1, 1, hour(0, 0, 0), []int{0}}, {1, 1, hour(1, 12, 0), []int{2}}, {12, 12, hour(0, 11, 0), []int{0}}, {12, 12, hour(12, 12, 0), []int{2}}, {12, 12, hour(11, 12, 0), []int{0, 2}},
	} {
		f := api.Flag{Low: x.low, High: x.high, Quiet: 1, Hours: []api.FlagHour{x.hour}}
		checkKinds(t, f, 0, x.kinds...)
		f.Hours = []api.FlagHour{hour(0, 12, 1), x.hour, hour(5, 5, 0)}
		f.Seen = []api.FlagSeen{up(1), down(1), up(0), down(0)}
		checkKinds(t, f, 1, x.kinds...)
	}
	for h, kinds := range [][]int{{0}, {1, 2}, {0, 2}, {0, 1}, {0}, {1}} {
		checkKinds(t, flagF(), h, kinds...)
		checkKinds(t, flagN(), h, kinds...)
	}
}

// P10.2, of flags of which all is known: hoisted in a stormy hour, taken down after Quiet calm ones in which it was up.
func TestTheFlag(t *testing.T) {
	for _, x := range []struct {
		quiet     int
		hours, up string
	}{
		{1, "", ""}, {1, "c", "."}, {1, "b", "."}, {1, "s", "u"}, {4, "s", "u"}, {1, "t", "u"}, {1, "cbcbcbcbc", "........."}, {4, "sssssssss", "uuuuuuuuu"}, {1, "ttttttttt", "uuuuuuuuu"}, {1, "bscc", ".uu."}, {1, "ccccccccs", "........u"},
		// Quiet is how many calm hours it takes, and the flag is up in the last one of them still.
		{1, "scccccccc", "uu......."}, {2, "scccccccc", "uuu......"}, {3, "scccccccc", "uuuu....."}, {4, "scccccccc", "uuuuu...."}, {4, "sccc", "uuuu"}, {4, "scccc", "uuuuu"},
		// Any other hour begins it again, stormy or between.
		{2, "scbcbcbcc", "uuuuuuuuu"}, {2, "scbccbbbb", "uuuuu...."}, {2, "scsccbbbb", "uuuuu...."}, {2, "sctccbbbb", "uuuuu...."}, {3, "sccbcccbb", "uuuuuuu.."}, {3, "sccsccccs", "uuuuuuu.u"}, {4, "scccbcccc", "uuuuuuuuu"}, {4, "sbcccbccc", "uuuuuuuuu"}, {4, "sbbbbbbbb", "uuuuuuuuu"}, {1, "sbbbbbbbc", "uuuuuuuuu"}, {1, "sbcbbbbbb", "uuu......"},
		// Calm hours before it was hoisted do not count, nor those before it was taken down the last time.
		{2, "ccscbcc", "..uuuuu"}, {2, "ccsccbb", "..uuu.."}, {3, "ccsccbb", "..uuuuu"}, {1, "scscscscs", "uuuuuuuuu"}, {1, "sccsccscc", "uu.uu.uu."}, {2, "sccccsccb", "uuu..uuu."}, {2, "sccsccscc", "uuuuuuuuu"}, {2, "sccbsccbs", "uuu.uuu.u"}, {2, "sccctcbcc", "uuu.uuuuu"}, {1, "tcbbtccbt", "uu..uu..u"},
	} {
		hours := 0
		for n, c := range x.up {
			if c == 'u' {
				hours |= 1 << n
			}
		}
		f := exact(x.quiet, x.hours)
		checkUp(t, f, hours, hours, api.OK)
		checkCount(t, f, 1)
		checkLong(t, f, span(size(hours), size(hours)), api.OK)
		checkAsk(t, f, 0, 0, api.ErrRefuse)
		checkWrong(t, f, api.ErrNone)
		for n := range f.Hours {
			checkUnder(t, f, n, n+1, hours>>n&1*2, api.OK)
		}
	}
}

// P10.2 and P10.3: what is so in each truth, in some, how many there are, and for how many hours.
func TestUpCountAndLong(t *testing.T) {
	for _, x := range []struct {
		f               api.Flag
		surely, perhaps []int
		count           int
		long            api.Span
	}{
		{vague(1, ""), nil, nil, 1, span(0, 0)}, {vague(1, "y"), nil, []int{0}, 2, span(0, 1)}, {vague(1, "x"), nil, nil, 2, span(0, 0)}, {vague(1, "?"), nil, []int{0}, 3, span(0, 1)},
		// One more of those that can be: the flag was up for all hours or taken down early.
		{vague(1, "sxc"), []int{0, 1}, []int{0, 1, 2}, 2, span(2, 3)}, {vague(2, "sxcx"), []int{0, 1, 2}, []int{0, 1, 2, 3}, 4, span(3, 4)}, {vague(1, "szcc"), []int{0, 1}, []int{0, 1, 2}, 2, span(2, 3)}, {vague(1, "ycb"), nil, []int{0, 1}, 2, span(0, 2)}, {vague(1, "ysc"), []int{1, 2}, []int{0, 1, 2}, 2, span(2, 3)},
		// By what was seen: it was hoisted, it was not, it was not taken down, or it was.
		{vague(1, "ycb", up(0)), []int{0, 1}, []int{0, 1}, 1, span(2, 2)}, {vague(1, "ycb", up(1)), []int{0, 1}, []int{0, 1}, 1, span(2, 2)}, {vague(1, "ycb", down(1)), nil, nil, 1, span(0, 0)}, {vague(1, "sxc", up(2)), []int{0, 1, 2}, []int{0, 1, 2}, 1, span(3, 3)}, {vague(1, "sxc", down(2)), []int{0, 1}, []int{0, 1}, 1, span(2, 2)}, {vague(2, "yxxb", up(3)), []int{0, 1, 2, 3}, []int{0, 1, 2, 3}, 3, span(4, 4)}, {vague(2, "yxxb", down(3)), nil, []int{0, 1, 2}, 5, span(0, 3)}, {vague(2, "yxxb", up(1), down(3)), []int{0, 1, 2}, []int{0, 1, 2}, 1, span(3, 3)}, {vague(1, "yyb", up(2)), []int{1, 2}, []int{0, 1, 2}, 3, span(2, 3)},
		// The same twice, and of all hours.
		{vague(1, "ycb", up(0), up(0), up(1), down(2)), []int{0, 1}, []int{0, 1}, 1, span(2, 2)}, {vague(1, "????", up(0), up(1), up(2), up(3), up(3), up(2), up(1), up(0)), []int{0, 1, 2, 3}, []int{0, 1, 2, 3}, 17, span(4, 4)},
		{whole(1), nil, []int{0, 1, 2, 3, 4, 5, 6, 7, 8}, 19683, span(0, 9)}, {whole(4), nil, []int{0, 1, 2, 3, 4, 5, 6, 7, 8}, 19683, span(0, 9)}, {whole(1, down(8)), nil, []int{0, 1, 2, 3, 4, 5, 6, 7}, 6562, span(0, 8)}, {whole(4, down(4), up(0)), nil, nil, 0, span(0, 0)},
	} {
		e := api.OK
		if x.count == 0 {
			e = api.ErrClash
		}
		checkUp(t, x.f, setOf(x.surely...), setOf(x.perhaps...), e)
		checkCount(t, x.f, x.count)
		checkLong(t, x.f, x.long, e)
	}
}

// P10.4: in some of the hours, from the first one to before the last one, together.
func TestUnder(t *testing.T) {
	for _, x := range []struct {
		f              api.Flag
		from, to, then int
	}{
		{exact(1, "cscc"), 0, 1, 0}, {exact(1, "cscc"), 0, 2, 2}, {exact(1, "cscc"), 1, 2, 2}, {exact(1, "cscc"), 2, 3, 2}, {exact(1, "cscc"), 2, 4, 2}, {exact(1, "cscc"), 3, 4, 0}, {exact(1, "cscc"), 0, 4, 2},
		{vague(1, "cycc"), 0, 1, 0}, {vague(1, "cycc"), 0, 2, 1}, {vague(1, "cycc"), 1, 3, 1}, {vague(1, "cycc"), 2, 4, 1}, {vague(1, "cycc"), 3, 4, 0}, {vague(1, "cycc"), 0, 4, 1},
		// Two hours that are perhaps such make it perhaps so.
		{vague(1, "yccy"), 0, 4, 1}, {vague(1, "yccy"), 2, 3, 0}, {vague(1, "yccy"), 3, 4, 1}, {vague(1, "yccs"), 0, 3, 1}, {vague(1, "yccs"), 0, 4, 2}, {vague(1, "yccs"), 1, 3, 1}, {vague(1, "yccs"), 2, 3, 0},
		{vague(1, "yyb", up(2)), 0, 1, 1}, {vague(1, "yyb", up(2)), 0, 2, 2}, {vague(1, "yyb", down(2)), 0, 3, 0},
		{whole(1), 0, 9, 1}, {whole(1), 8, 9, 1}, {whole(1, up(8)), 8, 9, 2}, {whole(1, up(8)), 0, 9, 2}, {whole(1, up(8)), 0, 8, 1}, {whole(2, down(0), down(4), down(8)), 0, 1, 0}, {whole(2, down(0), down(4), down(8)), 0, 5, 1},
	} {
		checkUnder(t, x.f, x.from, x.to, x.then, api.OK)
	}
}

// P10.5: the first hour from one on, this one too, in which the flag surely was down.
func TestDown(t *testing.T) {
	for _, x := range []struct {
		f          api.Flag
		from, down int
	}{
		{exact(1, "c"), 0, 0}, {exact(1, "s"), 0, -1}, {exact(1, "sccscc"), 0, 2}, {exact(1, "sccscc"), 2, 2}, {exact(1, "sccscc"), 3, 5}, {exact(1, "sccscc"), 5, 5}, {exact(1, "sccs"), 3, -1}, {exact(2, "ccs"), 1, 1},
		// Perhaps is not enough.
		{vague(1, "yccb"), 0, 2}, {vague(1, "sxcb"), 0, 3}, {vague(1, "sxxb"), 0, -1}, {vague(1, "yb"), 0, -1}, {vague(1, "cyb"), 0, 0}, {vague(1, "cyb"), 1, -1}, {vague(1, "yb", down(1)), 0, 0}, {vague(1, "sxb", down(2)), 0, 2}, {vague(1, "sxb", up(2)), 0, -1},
		{whole(1), 0, -1}, {whole(1, down(8)), 0, 8}, {whole(1, down(8), down(3)), 0, 3}, {whole(1, down(8), down(3)), 4, 8},
	} {
		if x.down < 0 {
			checkDown(t, x.f, x.from, 0, api.ErrNone)
			continue
		}
		checkDown(t, x.f, x.from, x.down, api.OK)
	}
}

// P10.6: the least of the greatest numbers, of several the first hour; an hour of one kind alone tells nothing.
func TestAsk(t *testing.T) {
	for _, x := range []struct {
		f          api.Flag
		hour, left int
	}{
		{vague(1, "x"), 0, 1}, {vague(1, "?"), 0, 1}, {vague(1, "xx"), 0, 2}, {vague(1, "cxx"), 1, 2}, {vague(1, "x?"), 1, 2}, {vague(1, "?x"), 0, 2}, {vague(1, "x?x?"), 1, 12}, {vague(1, "ccx"), 2, 1}, {vague(1, "sbxy"), 2, 2},
		// What was seen makes a kind more likely.
		{vague(1, "yyb", up(2)), 0, 2}, {vague(2, "yxxb", up(3)), 1, 2}, {vague(2, "yxxb", down(3)), 1, 3}, {vague(1, "xsxb", up(3)), 0, 1}, {vague(1, "sxx", up(2)), 2, 1}, {vague(1, "xsxx", up(3)), 0, 2},
		{flagF(), 1, 4}, {whole(1), 0, 6561}, {whole(3, down(0)), 1, 4374},
	} {
		checkAsk(t, x.f, x.hour, x.left, api.OK)
	}
	for _, f := range []api.Flag{exact(1, ""), exact(1, "c"), exact(4, "scb"), vague(1, "ycb", up(0)), vague(1, "sxc", down(2)), vague(1, "y", down(0), down(0))} {
		checkAsk(t, f, 0, 0, api.ErrRefuse)
	}
	checkAsk(t, flagN(), 0, 0, api.ErrClash)
}

// P10.7: the fewest come before the least number.
func TestWrong(t *testing.T) {
	for _, x := range []struct {
		f     api.Flag
		wrong []int
	}{
		{exact(1, "c"), nil}, {vague(1, "c", up(0)), []int{0}}, {vague(1, "s", down(0)), []int{0}}, {vague(1, "c", down(0)), nil}, {vague(1, "y", up(0), down(0)), []int{0}}, {vague(1, "y", down(0), up(0)), []int{0}}, {vague(1, "y", up(0), down(0), up(0)), []int{1}}, {vague(1, "y", up(0), down(0), down(0)), []int{0}}, {vague(1, "y", up(0), down(0), down(0), up(0)), []int{1, 2}}, {vague(1, "y", down(0), up(0), up(0), down(0)), []int{1, 2}}, {vague(1, "y", down(0), up(0), down(0), up(0)), []int{0, 2}},
		// Each one that is false by itself, and of others only what has to be.
		{vague(1, "csc", up(0), down(1), down(2)), []int{0, 1, 2}}, {vague(1, "csc", up(0), up(1), up(2)), []int{0}}, {vague(1, "cyc", up(0), up(1), down(2)), []int{0, 1}}, {vague(1, "cyc", up(1), down(2), up(0)), []int{0, 2}}, {vague(1, "cyc", down(2), up(1), down(2)), []int{1}}, {vague(1, "cyc", down(2), up(1), up(2)), []int{0}}, {vague(2, "yxxb", up(3), up(0), down(2), down(1)), []int{0, 1}},
		// Eight, all false, or half of them.
		{vague(1, "c", up(0), up(0), up(0), up(0), up(0), up(0), up(0), up(0)), []int{0, 1, 2, 3, 4, 5, 6, 7}}, {vague(1, "y", down(0), down(0), down(0), down(0), up(0), up(0), up(0), up(0)), []int{0, 1, 2, 3}}, {vague(1, "y", down(0), up(0), down(0), up(0), down(0), up(0), down(0), up(0)), []int{0, 2, 4, 6}}, {whole(4, up(0), down(1), up(2), down(3), up(4), down(5), up(6), down(7)), []int{0, 3, 5}},
		{flagF(down(3), up(0), up(5)), []int{0, 1}}, {flagF(up(2), down(2), up(2)), []int{1}}, {whole(1), nil}, {exact(1, ""), nil},
	} {
		if x.wrong == nil {
			checkWrong(t, x.f, api.ErrNone)
			continue
		}
		checkWrong(t, x.f, api.OK, x.wrong...)
		checkCount(t, x.f, 0)
		x.f.Seen = without(x.f.Seen, setOf(x.wrong...))
		checkWrong(t, x.f, api.ErrNone)
	}
}

// without is what was seen but for some of it.
func without(seen []api.FlagSeen, set int) (left []api.FlagSeen) {
	for n, s := range seen {
		if set>>n&1 == 0 {
			left = append(left, s)
		}
	}
	return slices.Clip(left)
}
