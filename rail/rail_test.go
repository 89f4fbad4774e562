package rail_test

import (
	"slices"
	"testing"

	"dipworks/api"
	"dipworks/rail"
)

func span(lo, hi int) api.Span { return api.Span{Lo: lo, Hi: hi} }

func bather(hut, half int, lent, back api.Span) api.TowelBather {
	return api.TowelBather{Hut: hut, Half: half, Lent: lent, Back: back}
}

func line(many, at, lo, hi int) api.RailLine {
	return api.RailLine{Many: many, At: at, Wet: span(lo, hi)}
}

// towels are those of chapter 6, with so many missing of the half hour 1.
func towels(half api.Span) api.Towels {
	return api.Towels{
		Bathers: []api.TowelBather{bather(0, 0, span(2, 2), span(1, 2)), bather(0, 1, span(2, 3), span(1, 1)), bather(1, 0, span(1, 1), span(0, 1)), bather(1, 1, span(3, 3), span(0, 3))},
		Huts:    []api.Span{span(2, 2), span(1, 2)},
		Halves:  []api.Span{span(1, 1), half},
	}
}

// keeping is towels of one bather who has kept so many, surely.
func keeping(kept api.Span) api.Towels {
	return api.Towels{Bathers: []api.TowelBather{bather(0, 0, kept, span(0, 0))}, Huts: []api.Span{span(0, 24)}, Halves: []api.Span{span(0, 24)}}
}

func railOf(t api.Towels) api.Rail {
	return api.Rail{Towels: t, Stock: 20, Hours: 8, Sun: 1<<2 | 1<<3, Rain: 1 << 4, Perhaps: 1 << 1, Price: 6, Lines: []api.RailLine{line(5, 0, 3, 4), line(4, 3, 2, 2)}}
}

// railR and railN are those of the examples.
func railR() api.Rail { return railOf(towels(span(2, 3))) }
func railN() api.Rail { return railOf(towels(span(5, 5))) }

// sky is a rail of hours that are cloudy (c), sunny (s), of rain (r), perhaps of rain (p), perhaps of rain and otherwise sunny (q), of rain though they are of Sun too (R), or of rain and perhaps of rain (b).
func sky(stock int, hours string, lines ...api.RailLine) api.Rail {
	r := api.Rail{Stock: stock, Hours: len(hours), Lines: lines}
	for hour, is := range hours {
		for _, x := range []struct {
			among string
			set   *int
		}{{"sqR", &r.Sun}, {"rRb", &r.Rain}, {"pqb", &r.Perhaps}} {
			if slices.Contains([]rune(x.among), is) {
				*x.set |= 1 << hour
			}
		}
	}
	return r
}

func checkDry(t *testing.T, r api.Rail, line int, dry api.Span, want api.Errno) {
	t.Helper()
	if s, e := rail.Dry(r, line); s != dry || e != want {
		t.Error("Dry", r, line, s, e, dry, want)
	}
}

func checkWet(t *testing.T, r api.Rail, hour int, wet api.Span) {
	t.Helper()
	if s, e := rail.Wet(r, hour); s != wet || e != api.OK {
		t.Error("Wet", r, hour, s, e, wet)
	}
}

func checkLatest(t *testing.T, r api.Rail, wet, hour, latest int, want api.Errno) {
	t.Helper()
	if n, e := rail.Latest(r, wet, hour); n != latest || e != want {
		t.Error("Latest", r, wet, hour, n, e, latest, want)
	}
}

func checkReady(t *testing.T, r api.Rail, hour int, ready api.Span, want api.Errno) {
	t.Helper()
	if s, e := rail.Ready(r, hour); s != ready || e != want {
		t.Error("Ready", r, hour, s, e, ready, want)
	}
}

func checkEnough(t *testing.T, r api.Rail, hour, many, enough int, want api.Errno) {
	t.Helper()
	if n, e := rail.Enough(r, hour, many); n != enough || e != want {
		t.Error("Enough", r, hour, many, n, e, enough, want)
	}
}

func checkWhen(t *testing.T, r api.Rail, many, hour int, want api.Errno) {
	t.Helper()
	if n, e := rail.When(r, many); n != hour || e != want {
		t.Error("When", r, many, n, e, hour, want)
	}
}

func checkBuy(t *testing.T, r api.Rail, hour, many, buy int, want api.Errno) {
	t.Helper()
	if n, e := rail.Buy(r, hour, many); n != buy || e != want {
		t.Error("Buy", r, hour, many, n, e, buy, want)
	}
}

func checkOwes(t *testing.T, r api.Rail, bather int, owes api.Span, want api.Errno) {
	t.Helper()
	if s, e := rail.Owes(r, bather); s != owes || e != want {
		t.Error("Owes", r, bather, s, e, owes, want)
	}
}

// The examples of the chapter, and that of the document.
func TestExamples(t *testing.T) {
	r, n := railR(), railN()
	checkDry(t, r, 0, span(3, 4), api.OK)
	checkDry(t, r, 1, span(4, 4), api.OK)
	checkWet(t, r, 0, span(9, 9))
	checkWet(t, r, 3, span(4, 9))
	checkWet(t, r, 4, span(0, 0))
	checkLatest(t, r, 4, 6, 2, api.OK)
	checkLatest(t, r, 4, 2, 0, api.ErrNone)
	checkLatest(t, r, 2, 8, 6, api.OK)
	checkReady(t, r, 0, span(7, 8), api.OK)
	checkReady(t, r, 3, span(7, 13), api.OK)
	checkReady(t, r, 4, span(16, 17), api.OK)
	checkEnough(t, r, 3, 7, api.RailAlways, api.OK)
	checkEnough(t, r, 3, 10, api.RailPerhaps, api.OK)
	checkEnough(t, r, 3, 14, api.RailNever, api.OK)
	checkWhen(t, r, 7, 0, api.OK)
	checkWhen(t, r, 16, 4, api.OK)
	checkWhen(t, r, 17, 0, api.ErrNone)
	checkBuy(t, r, 3, 10, 3, api.OK)
	checkBuy(t, r, 4, 16, 0, api.OK)
	checkOwes(t, r, 1, span(6, 12), api.OK)
	checkReady(t, n, 3, span(0, 0), api.ErrClash)
}

// P11.1: from the hour at which a line is dry at the earliest to that at which it is at the latest; the end is one of them.
func TestDry(t *testing.T) {
	for _, x := range []struct {
		hours string
		line  api.RailLine
		dry   api.Span
	}{
		{"c", line(1, 0, 1, 1), span(1, 1)}, {"s", line(1, 0, 1, 1), span(1, 1)}, {"s", line(1, 0, 2, 2), span(1, 1)}, {"s", line(1, 0, 1, 2), span(1, 1)}, {"cccc", line(6, 0, 3, 3), span(3, 3)}, {"cccc", line(6, 0, 4, 4), span(4, 4)}, {"cccc", line(1, 1, 3, 3), span(4, 4)}, {"cccc", line(1, 3, 1, 1), span(4, 4)}, {"cccc", line(1, 0, 1, 4), span(1, 4)}, {"cccc", line(1, 1, 1, 3), span(2, 4)},
		// The sun dries twice as fast: an odd rest is dry by it as soon as an even one.
		{"ssss", line(1, 0, 8, 8), span(4, 4)}, {"ssss", line(1, 0, 7, 7), span(4, 4)}, {"ssss", line(1, 0, 6, 7), span(3, 4)}, {"sccc", line(1, 0, 3, 3), span(2, 2)}, {"cscc", line(1, 0, 3, 3), span(2, 2)}, {"ccsc", line(1, 0, 3, 3), span(3, 3)}, {"cscc", line(1, 1, 3, 3), span(3, 3)}, {"cscc", line(1, 2, 2, 2), span(4, 4)},
		// In the rain nothing dries, be the hour of Sun or of Perhaps too.
		{"crrc", line(1, 0, 2, 2), span(4, 4)}, {"crrc", line(1, 0, 1, 1), span(1, 1)}, {"crrc", line(1, 1, 1, 1), span(4, 4)}, {"cRcc", line(1, 0, 2, 2), span(3, 3)}, {"cbcc", line(1, 0, 2, 2), span(3, 3)}, {"RbRc", line(1, 0, 1, 1), span(4, 4)}, {"rrrs", line(1, 3, 1, 2), span(4, 4)},
		// Perhaps it rains: in none of these hours, or in all of them.
		{"pc", line(1, 0, 1, 1), span(1, 2)}, {"ppc", line(1, 0, 1, 1), span(1, 3)}, {"qcc", line(1, 0, 2, 2), span(1, 3)}, {"qs", line(1, 0, 2, 2), span(1, 2)}, {"cpcpc", line(1, 0, 3, 3), span(3, 5)}, {"cpcpcc", line(1, 0, 2, 4), span(2, 6)}, {"pcc", line(1, 1, 1, 2), span(2, 3)}, {"pprrsp", line(1, 0, 1, 2), span(1, 5)},
		// What comes before it hangs, or after it is dry, makes no difference.
		{"sssrc", line(1, 3, 1, 1), span(5, 5)}, {"ccppppp", line(1, 0, 2, 2), span(2, 2)}, {"ppppcc", line(1, 4, 2, 2), span(6, 6)}, {"cccccccccccc", line(1, 11, 1, 1), span(12, 12)}, {"cccccccccccc", line(1, 4, 8, 8), span(12, 12)}, {"rrrrrrrrssss", line(1, 0, 1, 8), span(9, 12)},
	} {
		r := sky(60, x.hours, x.line)
		checkDry(t, r, 0, x.dry, api.OK)
		r.Lines = []api.RailLine{line(6, 0, 1, 8), x.line, line(1, len(x.hours)-1, 8, 8)}
		checkDry(t, r, 1, x.dry, api.OK)
	}
	for _, r := range []api.Rail{
		sky(9, "c", line(1, 0, 2, 2)), sky(9, "c", line(1, 0, 1, 2)), sky(9, "s", line(1, 0, 2, 3)), sky(9, "r", line(1, 0, 1, 1)), sky(9, "R", line(1, 0, 1, 1)), sky(9, "b", line(1, 0, 1, 1)), sky(9, "p", line(1, 0, 1, 1)), sky(9, "q", line(1, 0, 1, 1)), sky(9, "cccc", line(1, 1, 4, 4)), sky(9, "cccc", line(1, 3, 1, 2)), sky(9, "ccpp", line(1, 0, 3, 3)), sky(9, "ccpp", line(1, 0, 1, 3)), sky(9, "ccrr", line(1, 2, 1, 1)), sky(9, "cccccccccccc", line(1, 5, 8, 8)), sky(9, "pppppppppppp", line(1, 0, 1, 1)),
	} {
		checkDry(t, r, 0, span(0, 0), api.ErrRefuse)
	}
}

// P11.2: those that do not hang yet are wet too; what is on several lines is added.
func TestWet(t *testing.T) {
	for _, x := range []struct {
		r   api.Rail
		wet []api.Span // at each hour, and at the end
	}{
		{sky(9, "cc"), []api.Span{span(0, 0), span(0, 0), span(0, 0)}},
		{sky(9, "cc", line(3, 0, 1, 1)), []api.Span{span(3, 3), span(0, 0), span(0, 0)}},
		{sky(9, "cc", line(3, 1, 1, 1)), []api.Span{span(3, 3), span(3, 3), span(0, 0)}},
		{sky(9, "cc", line(3, 1, 2, 2)), []api.Span{span(3, 3), span(3, 3), span(3, 3)}},
		{sky(9, "ccc", line(3, 0, 1, 2)), []api.Span{span(3, 3), span(0, 3), span(0, 0), span(0, 0)}},
		{sky(9, "ppc", line(3, 0, 1, 1)), []api.Span{span(3, 3), span(0, 3), span(0, 3), span(0, 0)}},
		{sky(9, "pr", line(6, 0, 1, 1)), []api.Span{span(6, 6), span(0, 6), span(0, 6)}},
		{sky(0, "scs", line(1, 0, 2, 3), line(2, 0, 3, 3), line(4, 1, 1, 4)), []api.Span{span(7, 7), span(6, 7), span(0, 4), span(0, 4)}},
		{sky(0, "cpcc", line(6, 0, 1, 1), line(6, 0, 2, 2), line(6, 0, 3, 3), line(6, 3, 1, 1)), []api.Span{span(24, 24), span(18, 18), span(12, 18), span(6, 12), span(0, 0)}},
		{sky(0, "cccc", line(1, 3, 1, 1), line(2, 2, 1, 1), line(4, 1, 1, 1), line(6, 0, 1, 1)), []api.Span{span(13, 13), span(7, 7), span(3, 3), span(1, 1), span(0, 0)}},
		{sky(0, "cccc", line(6, 0, 1, 1), line(4, 1, 1, 1), line(2, 2, 1, 1), line(1, 3, 1, 1)), []api.Span{span(13, 13), span(7, 7), span(3, 3), span(1, 1), span(0, 0)}},
		{railN(), []api.Span{span(9, 9), span(9, 9), span(9, 9), span(4, 9), span(0, 0), span(0, 0), span(0, 0), span(0, 0), span(0, 0)}},
	} {
		for hour, wet := range x.wet {
			checkWet(t, x.r, hour, wet)
		}
	}
}

// P11.3: the greatest hour from which on the hours until then are enough, however much it rains; lines and towels are not looked at.
func TestLatest(t *testing.T) {
	for _, x := range []struct {
		hours             string
		wet, hour, latest int
	}{
		{"c", 1, 1, 0}, {"c", 2, 1, -1}, {"s", 2, 1, 0}, {"s", 1, 1, 0}, {"s", 3, 1, -1}, {"c", 1, 0, -1}, {"s", 1, 0, -1}, {"cccc", 1, 4, 3}, {"cccc", 2, 4, 2}, {"cccc", 4, 4, 0}, {"cccc", 5, 4, -1}, {"cccc", 1, 1, 0}, {"cccc", 2, 3, 1}, {"cccc", 4, 3, -1},
		{"cscs", 1, 4, 3}, {"cscs", 2, 4, 3}, {"cscs", 3, 4, 2}, {"cscs", 4, 4, 1}, {"cscs", 5, 4, 1}, {"cscs", 6, 4, 0}, {"cscs", 7, 4, -1}, {"cscs", 2, 3, 1}, {"cscs", 1, 3, 2},
		// Rain, and what perhaps is such, dries nothing: the towel has to hang before it.
		{"ccrr", 1, 4, 1}, {"ccpp", 1, 4, 1}, {"ccpq", 2, 4, 0}, {"ccRb", 1, 3, 1}, {"crcp", 1, 3, 2}, {"crcp", 2, 4, 0}, {"rrrr", 1, 4, -1}, {"pqpq", 1, 4, -1}, {"rccc", 3, 4, 1}, {"rccc", 4, 4, -1}, {"pccc", 1, 1, -1}, {"ccccrrrrpppp", 1, 12, 3}, {"ccccrrrrpppp", 4, 12, 0}, {"cccccccccccc", 8, 12, 4}, {"cccccccccccc", 8, 8, 0}, {"cccccccccccc", 8, 7, -1}, {"ssssssssssss", 8, 12, 8}, {"ssssssssssss", 7, 12, 8}, {"srssprpprrrr", 5, 12, 0}, {"srssprpprrrr", 4, 12, 2}, {"srssprpprrrr", 2, 12, 3},
	} {
		for _, lines := range [][]api.RailLine{nil, {line(6, 0, 8, 8)}, {line(1, 0, 1, 1), line(2, 0, 1, 8)}} {
			for _, kept := range []api.Towels{{}, towels(span(5, 5))} {
				r := sky(0, x.hours, lines...)
				r.Towels = kept
				if x.latest < 0 {
					checkLatest(t, r, x.wet, x.hour, 0, api.ErrNone)
					continue
				}
				checkLatest(t, r, x.wet, x.hour, x.latest, api.OK)
			}
		}
	}
}

// with is a rail with other towels.
func with(r api.Rail, t api.Towels) api.Rail {
	r.Towels = t
	return r
}

// P11.4 to P11.7: at hand is what is neither kept nor wet, and not below 0.
func TestAtHand(t *testing.T) {
	for _, x := range []struct {
		r     api.Rail
		hour  int
		ready api.Span
		short int // by how many towels the stock is too small for nobody to be left with fewer than 0
	}{
		{sky(0, "c"), 0, span(0, 0), 0}, {sky(60, "c"), 1, span(60, 60), 0}, {sky(5, "cc", line(3, 0, 1, 2)), 0, span(2, 2), 0}, {sky(5, "cc", line(3, 0, 1, 2)), 1, span(2, 5), 0}, {sky(5, "cc", line(3, 0, 1, 2)), 2, span(5, 5), 0}, {sky(3, "cc", line(3, 0, 1, 2)), 1, span(0, 3), 0},
		// There are fewer than are wet.
		{sky(2, "cc", line(3, 0, 1, 2)), 0, span(0, 0), 1}, {sky(2, "cc", line(3, 0, 1, 2)), 1, span(0, 2), 1}, {sky(0, "rr", line(6, 0, 1, 1), line(6, 0, 1, 1), line(6, 0, 1, 1), line(6, 0, 1, 1)), 2, span(0, 0), 24},
		// Some are kept.
		{with(sky(9, "cc"), keeping(span(0, 4))), 0, span(5, 9), 0}, {with(sky(9, "cc"), keeping(span(2, 3))), 2, span(6, 7), 0}, {with(sky(2, "cc"), keeping(span(2, 3))), 1, span(0, 0), 1}, {with(sky(0, "c"), keeping(span(4, 4))), 0, span(0, 0), 4}, {with(sky(9, "pc", line(6, 0, 1, 1)), keeping(span(1, 3))), 1, span(0, 8), 0}, {with(sky(8, "pc", line(6, 0, 1, 1)), keeping(span(1, 3))), 1, span(0, 7), 1}, {with(sky(8, "pc", line(6, 0, 1, 1)), keeping(span(1, 3))), 2, span(5, 7), 0},
		{railR(), 2, span(7, 8), 0}, {railR(), 8, span(16, 17), 0},
	} {
		checkReady(t, x.r, x.hour, x.ready, api.OK)
		for many := range 61 {
			switch {
			case many <= x.ready.Lo:
				checkEnough(t, x.r, x.hour, many, api.RailAlways, api.OK)
				checkBuy(t, x.r, x.hour, many, 0, api.OK)
				continue
			case many <= x.ready.Hi:
				checkEnough(t, x.r, x.hour, many, api.RailPerhaps, api.OK)
			default:
				checkEnough(t, x.r, x.hour, many, api.RailNever, api.OK)
			}
			checkBuy(t, x.r, x.hour, many, many-x.ready.Lo+x.short, api.OK)
		}
	}
}

// P11.7: Stock may become greater than it may be.
func TestBuyMoreThanThereMayBe(t *testing.T) {
	checkBuy(t, sky(60, "r", line(6, 0, 1, 1)), 1, 60, 6, api.OK)
	checkBuy(t, sky(0, "r", line(6, 0, 1, 1)), 0, 60, 66, api.OK)
	checkBuy(t, with(sky(60, "c"), keeping(span(0, 4))), 0, 60, 4, api.OK)
	checkBuy(t, with(sky(0, "p", line(6, 0, 8, 8), line(6, 0, 8, 8), line(6, 0, 8, 8), line(6, 0, 8, 8)), keeping(span(0, 4))), 1, 60, 88, api.OK)
}

// P11.6: from when on there are so many, surely; the end counts.
func TestWhen(t *testing.T) {
	for _, x := range []struct {
		r          api.Rail
		many, hour int
	}{
		{sky(0, "c"), 0, 0}, {sky(0, "c"), 1, -1}, {sky(60, "c"), 60, 0}, {sky(59, "c"), 60, -1}, {sky(5, "ccc", line(2, 0, 2, 2)), 3, 0}, {sky(5, "ccc", line(2, 0, 2, 2)), 4, 2}, {sky(5, "ccc", line(2, 0, 3, 3)), 5, 3}, {sky(5, "ccc", line(2, 0, 3, 3)), 6, -1}, {sky(5, "ccc", line(2, 0, 4, 4)), 4, -1}, {sky(5, "ccc", line(2, 0, 4, 4)), 3, 0},
		// Perhaps is not enough.
		{sky(5, "ccc", line(2, 0, 1, 2)), 4, 2}, {sky(5, "pcc", line(2, 0, 1, 1)), 5, 2}, {sky(5, "ppp", line(2, 0, 1, 1)), 5, -1}, {sky(5, "ppp", line(2, 0, 1, 1)), 3, 0}, {with(sky(5, "c"), keeping(span(0, 2))), 3, 0}, {with(sky(5, "c"), keeping(span(0, 2))), 4, -1}, {with(sky(9, "cpc", line(2, 0, 1, 2)), keeping(span(1, 2))), 7, 3}, {with(sky(9, "cpc", line(2, 0, 1, 2)), keeping(span(1, 2))), 5, 0},
		// Line by line; and the stock is smaller than what is wet.
		{sky(9, "cccc", line(1, 0, 1, 1), line(2, 1, 1, 1), line(4, 2, 1, 1)), 2, 0}, {sky(9, "cccc", line(1, 0, 1, 1), line(2, 1, 1, 1), line(4, 2, 1, 1)), 3, 1}, {sky(9, "cccc", line(1, 0, 1, 1), line(2, 1, 1, 1), line(4, 2, 1, 1)), 5, 2}, {sky(9, "cccc", line(1, 0, 1, 1), line(2, 1, 1, 1), line(4, 2, 1, 1)), 6, 3}, {sky(9, "cccc", line(4, 2, 1, 1), line(2, 1, 1, 1), line(1, 0, 1, 1)), 9, 3}, {sky(2, "cc", line(4, 0, 2, 2)), 0, 0}, {sky(2, "cc", line(4, 0, 2, 2)), 1, 2}, {sky(2, "cccc", line(4, 0, 1, 1), line(4, 3, 1, 1)), 1, 4}, {sky(60, "rrrrrrrrrrrs", line(6, 0, 2, 2)), 60, 12},
	} {
		if x.hour < 0 {
			checkWhen(t, x.r, x.many, 0, api.ErrNone)
			continue
		}
		checkWhen(t, x.r, x.many, x.hour, api.OK)
	}
}

// P11.8: by all truths of the towels, not by own words alone.
func TestOwes(t *testing.T) {
	for _, x := range []struct {
		price, bather int
		owes          api.Span
	}{
		{6, 0, span(0, 6)}, {6, 1, span(6, 12)}, {6, 2, span(0, 6)}, {6, 3, span(0, 12)}, {0, 1, span(0, 0)}, {1, 1, span(1, 2)}, {20, 3, span(0, 40)},
	} {
		r := railR()
		r.Price = x.price
		checkOwes(t, r, x.bather, x.owes, api.OK)
		r.Lines, r.Stock, r.Rain = nil, 0, 255
		checkOwes(t, r, x.bather, x.owes, api.OK)
	}
	r := with(sky(0, "c"), keeping(span(4, 4)))
	r.Price = 20
	checkOwes(t, r, 0, span(80, 80), api.OK)
}
