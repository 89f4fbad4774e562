package rail_test

import (
	"math/rand/v2"
	"slices"
	"testing"

	"dipworks/api"
	"dipworks/rail"
)

// seen counts what random rails test.
type seen struct {
	clash, truths             int
	dry, when, latest         [2]int
	enough                    [3]int
	wide, bought, owed, empty int
}

// P11.1 to P11.8, of many rails, against all truths.
func TestAgainstAllTruths(t *testing.T) {
	var n seen
	for seed := range uint64(500) {
		checkAll(t, anyRail(source(seed), 9, 3), &n)
	}
	for what, counts := range map[string][]int{"truths": {n.clash, n.truths}, "dry": n.dry[:], "when": n.when[:], "latest": n.latest[:], "enough": n.enough[:], "ends": {n.wide, n.bought, n.owed, n.empty}} {
		if slices.Min(counts) < 30 {
			t.Error("the rails do not test all cases", what, counts)
		}
	}
}

// P11.1 to P11.8, of rails with as many hours, lines and numbers as there may be, against all truths.
func TestFullRails(t *testing.T) {
	var n seen
	full := sky(60, "pppppppppppp", line(6, 0, 1, 8))
	full.Towels = keeping(span(0, 4))
	checkAll(t, full, &n)
	full.Sun = 1<<12 - 1
	checkAll(t, full, &n)
	wet := sky(30, "sspcrcpqscRb", line(6, 0, 1, 8), line(5, 3, 1, 8), line(4, 6, 2, 5), line(3, 8, 1, 4))
	checkAll(t, wet, &n)
	for seed := range uint64(12) {
		r := source(1000 + seed)
		x, _, _ := story(r, 12, 4)
		for n, l := range x.Lines {
			x.Lines[n].Wet = around(r, from(r, l.Wet.Lo, l.Wet.Hi), 2, 1, 8)
		}
		checkAll(t, x, &n)
	}
}

// checkAll looks at all functions.
func checkAll(t *testing.T, r api.Rail, n *seen) {
	t.Helper()
	list := days(r)
	for line := range r.Lines {
		never := in(list, func(d day) bool { return d.dryAt(r, line) < 0 })
		if never > 0 {
			n.dry[0]++
			checkDry(t, r, line, span(0, 0), api.ErrRefuse)
			continue
		}
		n.dry[1]++
		checkDry(t, r, line, spread(list, func(d day) int { return d.dryAt(r, line) }), api.OK)
	}
	for hour := range r.Hours + 1 {
		checkWet(t, r, hour, spread(list, func(d day) int { return d.towels(r, hour) }))
	}
	checkHanging(t, r, n)
	kept := keeps(r.Towels)
	if len(kept) == 0 {
		n.clash++
		checkClash(t, r)
		return
	}
	n.truths++
	checkStore(t, r, n)
	for b := range r.Towels.Bathers {
		owes := spread(kept, func(x []int) int { return r.Price * x[b] })
		if owes.Lo < owes.Hi {
			n.owed++
		}
		checkOwes(t, r, b, owes, api.OK)
	}
}

// checkHanging looks at Latest. No line is looked at, so of each weather there is one day.
func checkHanging(t *testing.T, r api.Rail, n *seen) {
	t.Helper()
	r.Lines = nil
	list := days(r)
	for hour := range r.Hours + 1 {
		for wet := 1; wet <= 8; wet++ {
			if best := latest(r, list, wet, hour); best < 0 {
				n.latest[0]++
				checkLatest(t, r, wet, hour, 0, api.ErrNone)
			} else {
				n.latest[1]++
				checkLatest(t, r, wet, hour, best, api.OK)
			}
		}
	}
}

// checkClash looks at what there is no result of if the towels have no truth.
func checkClash(t *testing.T, r api.Rail) {
	t.Helper()
	checkReady(t, r, r.Hours, span(0, 0), api.ErrClash)
	checkEnough(t, r, 0, 0, 0, api.ErrClash)
	checkWhen(t, r, 60, 0, api.ErrClash)
	checkBuy(t, r, 0, 60, 0, api.ErrClash)
	checkOwes(t, r, 0, span(0, 0), api.ErrClash)
}

// checkStore looks at Ready, Enough, Buy and When, for some numbers of towels.
func checkStore(t *testing.T, r api.Rail, n *seen) {
	t.Helper()
	list := truths(r)
	surely := map[int][]bool{}
	for hour := range r.Hours + 1 {
		ready := spread(list, func(x truth) int { return x.atHand(r, hour) })
		checkReady(t, r, hour, ready, api.OK)
		if ready.Lo < ready.Hi {
			n.wide++
		}
		if ready.Lo == 0 {
			n.empty++
		}
		for _, many := range numbers(r) {
			can := in(list, func(x truth) bool { return x.atHand(r, hour) >= many })
			surely[many] = append(surely[many], can == len(list))
			checkEnoughAndBuy(t, r, list, hour, many, can, n)
		}
	}
	for many, at := range surely {
		if !at[r.Hours] {
			n.when[0]++
			checkWhen(t, r, many, 0, api.ErrNone)
			continue
		}
		n.when[1]++
		hour := r.Hours
		for hour > 0 && at[hour-1] {
			hour--
		}
		checkWhen(t, r, many, hour, api.OK)
	}
}

// numbers are some numbers of towels: the ends, what can be at hand at the end, and what is around these.
func numbers(r api.Rail) (list []int) {
	list = []int{0, 1, 60}
	wet := 0
	for _, l := range r.Lines {
		wet += l.Many
	}
	for _, n := range []int{r.Stock, r.Stock - 3, r.Stock - wet, r.Stock - wet - 2, r.Stock - wet/2} {
		if 1 < n && n < 60 && !slices.Contains(list, n) {
			list = append(list, n)
		}
	}
	return list
}

func checkEnoughAndBuy(t *testing.T, r api.Rail, list []truth, hour, many, can int, n *seen) {
	t.Helper()
	enough := api.RailPerhaps
	switch can {
	case len(list):
		enough = api.RailAlways
	case 0:
		enough = api.RailNever
	}
	n.enough[enough]++
	checkEnough(t, r, hour, many, enough, api.OK)
	if len(list) > 3000 {
		return // To try one number after the other would take long.
	}
	more := buy(r, list, hour, many)
	if more > 0 {
		n.bought++
	}
	checkBuy(t, r, hour, many, more, api.OK)
}

// moments are the first hour, two others, and the end.
func moments(r *rand.Rand, x api.Rail) []int {
	return []int{0, r.IntN(x.Hours + 1), r.IntN(x.Hours + 1), x.Hours}
}

// P11.9 and P2: what is true is within what is told.
func TestWhatIsTrueIsTold(t *testing.T) {
	rained, kept := 0, 0
	for seed := range uint64(600) {
		random := source(10000 + seed)
		r, d, keeps := story(random, 12, 4)
		x := truth{day: d}
		for b, n := range keeps {
			x.kept += n
			if owes, e := rail.Owes(r, b); e != api.OK || !isIn(r.Price*n, owes) {
				t.Error(seed, "Owes", r, b, n, owes, e)
			}
		}
		if d.rain != r.Rain {
			rained++
		}
		if x.kept > 0 {
			kept++
		}
		for n := range r.Lines {
			dry, e := rail.Dry(r, n)
			if e == api.OK && !isIn(d.dryAt(r, n), dry) || e != api.OK && e != api.ErrRefuse {
				t.Error(seed, "Dry", r, d, n, dry, e)
			}
		}
		for _, hour := range moments(random, r) {
			checkTrueHour(t, r, x, hour)
		}
	}
	if rained < 150 || kept < 150 {
		t.Error("the rails test one case only", rained, kept)
	}
}

// checkTrueHour fails unless what is told of an hour can be true.
func checkTrueHour(t *testing.T, r api.Rail, x truth, hour int) {
	t.Helper()
	if wet, e := rail.Wet(r, hour); e != api.OK || !isIn(x.towels(r, hour), wet) {
		t.Error("Wet", r, x, hour, wet, e)
	}
	many := x.atHand(r, hour)
	if ready, e := rail.Ready(r, hour); e != api.OK || !isIn(many, ready) {
		t.Error("Ready", r, x, hour, ready, e)
	}
	if n, e := rail.Enough(r, hour, many); e != api.OK || n == api.RailNever {
		t.Error("Enough", r, x, hour, many, n, e)
	}
	if many < 60 {
		if n, e := rail.Enough(r, hour, many+1); e != api.OK || n == api.RailAlways {
			t.Error("Enough", r, x, hour, many+1, n, e)
		}
	}
	for wet := 1 + hour%2; wet <= 8; wet += 2 {
		from, e := rail.Latest(r, wet, hour)
		if e == api.OK && (from >= hour || !x.isDry(r, wet, from, hour)) || e != api.OK && e != api.ErrNone {
			t.Error("Latest", r, x, wet, hour, from, e)
		}
	}
	for _, many := range numbers(r) {
		if from, e := rail.When(r, many); e == api.OK && hour >= from && x.atHand(r, hour) < many {
			t.Error("When", r, x, many, from, hour)
		}
		more, e := rail.Buy(r, hour, many)
		bigger := r
		bigger.Stock += more
		if e != api.OK || x.atHand(bigger, hour) < many {
			t.Error("Buy", r, x, hour, many, more, e)
		}
	}
}

// P11.9: never fewer towels are at hand later than before, nor are more wet.
func TestNeverFewerLater(t *testing.T) {
	grew := 0
	for seed := range uint64(1000) {
		r, _, _ := story(source(20000+seed), 12, 4)
		ready, _ := rail.Ready(r, 0)
		wet, _ := rail.Wet(r, 0)
		for hour := 1; hour <= r.Hours; hour++ {
			later, e := rail.Ready(r, hour)
			if later.Lo < ready.Lo || later.Hi < ready.Hi || e != api.OK {
				t.Error(seed, "Ready", r, hour, ready, later, e)
			}
			if later != ready {
				grew++
			}
			ready = later
			fewer, e := rail.Wet(r, hour)
			if fewer.Lo > wet.Lo || fewer.Hi > wet.Hi || e != api.OK {
				t.Error(seed, "Wet", r, hour, wet, fewer, e)
			}
			wet = fewer
		}
	}
	if grew < 500 {
		t.Error("the rails test too little", grew)
	}
}

// drier is a rail with less rain, more sun, a line that is less wet or was hung earlier, or a greater stock.
func drier(r *rand.Rand, x api.Rail) api.Rail {
	x.Lines = slices.Clone(x.Lines)
	some := 1 << r.IntN(x.Hours)
	switch r.IntN(7) {
	case 0:
		x.Rain &^= some
	case 1:
		x.Perhaps |= x.Rain & some
		x.Rain &^= some
	case 2:
		x.Perhaps &^= some
	case 3:
		x.Sun |= some
	case 4:
		x.Stock = from(r, x.Stock, 60)
	default:
		if len(x.Lines) == 0 {
			return x
		}
		l := &x.Lines[r.IntN(len(x.Lines))]
		if r.IntN(2) == 0 {
			l.At = r.IntN(l.At + 1)
			return x
		}
		l.Wet.Lo = from(r, 1, l.Wet.Lo)
		l.Wet.Hi = from(r, l.Wet.Lo, l.Wet.Hi)
	}
	return x
}

// P11.10: then nothing is dry later, and no fewer are at hand.
func TestDrier(t *testing.T) {
	sooner, more := 0, 0
	for seed := range uint64(600) {
		r := source(30000 + seed)
		x, _, _ := story(r, 12, 4)
		y := drier(r, x)
		for n := range x.Lines {
			before, refused := rail.Dry(x, n)
			after, e := rail.Dry(y, n)
			if refused == api.OK && (e != api.OK || after.Lo > before.Lo || after.Hi > before.Hi) {
				t.Error(seed, "Dry", x, y, n, before, after, e)
			}
			if refused != e || before != after {
				sooner++
			}
		}
		for _, hour := range moments(r, x) {
			if isMoreAt(t, x, y, hour) {
				more++
			}
		}
		for _, many := range numbers(x) {
			before, none := rail.When(x, many)
			after, e := rail.When(y, many)
			if none == api.OK && (e != api.OK || after > before) {
				t.Error(seed, "When", x, y, many, before, after, e)
			}
		}
	}
	if sooner < 50 || more < 200 {
		t.Error("the rails test one case only", sooner, more)
	}
}

// isMoreAt fails if fewer are at hand at an hour, or more are wet; it returns whether more are at hand.
func isMoreAt(t *testing.T, x, y api.Rail, hour int) bool {
	t.Helper()
	wet, _ := rail.Wet(x, hour)
	if s, e := rail.Wet(y, hour); s.Lo > wet.Lo || s.Hi > wet.Hi || e != api.OK {
		t.Error("Wet", x, y, hour, wet, s, e)
	}
	ready, _ := rail.Ready(x, hour)
	after, e := rail.Ready(y, hour)
	if after.Lo < ready.Lo || after.Hi < ready.Hi || e != api.OK {
		t.Error("Ready", x, y, hour, ready, after, e)
	}
	for _, many := range numbers(x) {
		before, _ := rail.Enough(x, hour, many)
		if n, e := rail.Enough(y, hour, many); n < before || e != api.OK {
			t.Error("Enough", x, y, hour, many, before, n, e)
		}
		before, _ = rail.Buy(x, hour, many)
		if n, e := rail.Buy(y, hour, many); n > before || e != api.OK {
			t.Error("Buy", x, y, hour, many, before, n, e)
		}
	}
	for wet := 1 + hour%3; wet <= 8; wet += 3 {
		before, none := rail.Latest(x, wet, hour)
		if n, e := rail.Latest(y, wet, hour); none == api.OK && (e != api.OK || n < before) {
			t.Error("Latest", x, y, wet, hour, before, n, e)
		}
	}
	return after != ready
}

// better is a rail of which something is known better: whether it rains, how wet a line is, or what is missing.
func better(r *rand.Rand, x api.Rail) api.Rail {
	x.Lines = slices.Clone(x.Lines)
	x.Towels.Huts = slices.Clone(x.Towels.Huts)
	switch some := x.Perhaps & (1 << r.IntN(x.Hours)); r.IntN(3) {
	case 0:
		x.Perhaps &^= some
		if r.IntN(2) == 0 {
			x.Rain |= some
		}
	case 1:
		if len(x.Lines) > 0 {
			narrow(r, &x.Lines[r.IntN(len(x.Lines))].Wet)
		}
	default:
		narrow(r, &x.Towels.Huts[r.IntN(len(x.Towels.Huts))])
	}
	return x
}

func narrow(r *rand.Rand, s *api.Span) {
	s.Lo = from(r, s.Lo, s.Hi)
	s.Hi = from(r, s.Lo, s.Hi)
}

// P2: with something that is known better nothing is told less exactly, unless there is no truth then.
func TestKnownBetter(t *testing.T) {
	narrower := 0
	for seed := range uint64(1000) {
		r := source(40000 + seed)
		x, _, _ := story(r, 12, 4)
		y := better(r, x)
		for n := range x.Lines {
			before, refused := rail.Dry(x, n)
			if after, e := rail.Dry(y, n); refused == api.OK && (e != api.OK || !isWithin(after, before)) {
				t.Error(seed, "Dry", x, y, n, before, after, e)
			}
		}
		for _, hour := range moments(r, x) {
			before, _ := rail.Wet(x, hour)
			if after, e := rail.Wet(y, hour); e != api.OK || !isWithin(after, before) {
				t.Error(seed, "Wet", x, y, hour, before, after, e)
			}
			before, _ = rail.Ready(x, hour)
			after, e := rail.Ready(y, hour)
			if e == api.ErrClash {
				continue
			}
			if e != api.OK || !isWithin(after, before) {
				t.Error(seed, "Ready", x, y, hour, before, after, e)
			}
			if after != before {
				narrower++
			}
			for _, many := range numbers(x) {
				if n, _ := rail.Enough(x, hour, many); n != api.RailPerhaps {
					checkEnough(t, y, hour, many, n, api.OK)
				}
			}
		}
		for b := range x.Towels.Bathers {
			before, _ := rail.Owes(x, b)
			if after, e := rail.Owes(y, b); e != api.ErrClash && (e != api.OK || !isWithin(after, before)) {
				t.Error(seed, "Owes", x, y, b, before, after, e)
			}
		}
	}
	if narrower < 200 {
		t.Error("the rails test too little", narrower)
	}
}

func isWithin(s, of api.Span) bool { return of.Lo <= s.Lo && s.Hi <= of.Hi }

// P11.10 and P11: the order of lines makes no difference but to their numbers.
func TestLinesOtherwise(t *testing.T) {
	for seed := range uint64(250) {
		r := source(50000 + seed)
		x := anyRail(r, 12, 4)
		y := x
		y.Lines = make([]api.RailLine, len(x.Lines))
		places := r.Perm(len(x.Lines))
		for n, m := range places {
			y.Lines[m] = x.Lines[n]
		}
		for n, m := range places {
			dry, e := rail.Dry(x, n)
			checkDry(t, y, m, dry, e)
		}
		for _, hour := range moments(r, x) {
			wet, _ := rail.Wet(x, hour)
			checkWet(t, y, hour, wet)
			ready, e := rail.Ready(x, hour)
			checkReady(t, y, hour, ready, e)
			for _, many := range numbers(x) {
				n, e := rail.Enough(x, hour, many)
				checkEnough(t, y, hour, many, n, e)
				n, e = rail.Buy(x, hour, many)
				checkBuy(t, y, hour, many, n, e)
				n, e = rail.When(x, many)
				checkWhen(t, y, many, n, e)
			}
		}
	}
}

// What several functions tell agrees.
func TestFunctionsAgree(t *testing.T) {
	hung, bought := 0, 0
	for seed := range uint64(300) {
		random := source(60000 + seed)
		r, _, _ := story(random, 12, 4)
		for _, hour := range moments(random, r) {
			for wet := 1; wet <= 8; wet++ {
				if from, e := rail.Latest(r, wet, hour); e == api.OK {
					hung++
					checkHung(t, r, wet, from, hour)
				}
			}
			ready, _ := rail.Ready(r, hour)
			for _, many := range numbers(r) {
				from, e := rail.When(r, many)
				if is := e == api.OK && from <= hour; is != (ready.Lo >= many) {
					t.Error(seed, "When", r, many, from, e, hour, ready)
				}
				more, _ := rail.Buy(r, hour, many)
				if more > 0 && r.Stock+more <= 60 {
					bought++
					bigger := r
					bigger.Stock += more
					checkEnough(t, bigger, hour, many, api.RailAlways, api.OK)
					bigger.Stock--
					if n, e := rail.Enough(bigger, hour, many); n == api.RailAlways || e != api.OK {
						t.Error(seed, "Buy", r, hour, many, more, n, e)
					}
				}
			}
		}
	}
	if hung < 300 || bought < 100 {
		t.Error("the rails test too little", hung, bought)
	}
}

// checkHung fails unless a line that is hung at an hour is dry at another one, and one that is hung later is not.
func checkHung(t *testing.T, r api.Rail, wet, from, hour int) {
	t.Helper()
	r.Lines = []api.RailLine{line(1, from, wet, wet)}
	if dry, e := rail.Dry(r, 0); e != api.OK || dry.Hi > hour {
		t.Error("Latest", r, wet, hour, from, dry, e)
	}
	if from+1 == r.Hours {
		return
	}
	r.Lines[0].At = from + 1
	if dry, e := rail.Dry(r, 0); e == api.OK && dry.Hi <= hour {
		t.Error("Latest", r, wet, hour, from, dry, e)
	}
}

// P1 and P11: the same call tells the same, whatever is called at the same time.
func TestSameCallSameResult(t *testing.T) {
	done := make(chan [8]int)
	for range 8 {
		go func() {
			dry, _ := rail.Dry(railR(), 0)
			ready, _ := rail.Ready(railR(), 3)
			latest, _ := rail.Latest(railR(), 4, 6)
			when, _ := rail.When(railR(), 16)
			more, _ := rail.Buy(railR(), 3, 10)
			_, e := rail.Ready(railN(), 3)
			done <- [8]int{dry.Lo, dry.Hi, ready.Lo, ready.Hi, latest, when, more, int(e)}
		}()
	}
	for range 8 {
		if x := <-done; x != [8]int{3, 4, 7, 13, 2, 4, 3, int(api.ErrClash)} {
			t.Error(x)
		}
	}
}
