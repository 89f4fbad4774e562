package flag_test

import (
	"math/rand/v2"
	"slices"
	"testing"

	"dipworks/api"
	"dipworks/flag"
)

// seen counts what random flags test.
type seen struct {
	none, one, several int
	under, down        [3]int
	ask, wrong         [9]int
	kinds              [8]int
}

// P10.1 to P10.7, of many flags, against all truths.
func TestAgainstAllTruths(t *testing.T) {
	var n seen
	for seed := range uint64(4000) {
		f := anyFlag(source(seed), 7)
		checkAll(t, f, &n)
	}
	if n.none < 500 || n.one < 300 || n.several < 1000 {
		t.Error("the flags do not test all cases", n)
	}
	for what, counts := range map[string][]int{"under": n.under[:], "down": n.down[:2], "ask": n.ask[:6], "wrong": n.wrong[:4], "kinds": n.kinds[1:]} {
		if slices.Min(counts) < 10 {
			t.Error("the flags do not test all cases", what, counts)
		}
	}
}

// P10.1 to P10.7, of flags with as many hours as there may be, against all truths.
func TestFullFlags(t *testing.T) {
	var n seen
	for seed := range uint64(60) {
		r := source(5000 + seed)
		f := whole(from(r, 1, 4))
		for hour := range f.Hours {
			if r.IntN(3) == 0 {
				f.Hours[hour] = known(r, someWeather(r, f), 4)
			}
		}
		for range r.IntN(9) {
			f.Seen = append(f.Seen, api.FlagSeen{Hour: r.IntN(9), Up: r.IntN(2) == 0})
		}
		checkAll(t, f, &n)
	}
	if n.none < 5 || n.several < 20 {
		t.Error("the flags do not test all cases", n)
	}
}

// checkAll looks at all functions.
func checkAll(t *testing.T, f api.Flag, n *seen) {
	t.Helper()
	all := ways(f)
	list := truths(f, all)
	checkCount(t, f, len(list))
	for hour, h := range f.Hours {
		var kinds []int
		for kind := range 3 {
			if canBe(f, h, kind) {
				kinds = append(kinds, kind)
			}
		}
		checkKinds(t, f, hour, kinds...)
		n.kinds[setOf(kinds...)]++
	}
	if len(list) == 0 {
		n.none++
		checkClash(t, f)
		set := wrong(f, all)
		n.wrong[size(set)]++
		checkWrong(t, f, api.OK, elements(set)...)
		return
	}
	n.wrong[0]++
	checkWrong(t, f, api.ErrNone)
	checkHours(t, f, list, n)
	if len(list) == 1 {
		n.one++
		checkAsk(t, f, 0, 0, api.ErrRefuse)
		return
	}
	n.several++
	hour, left := ask(list, len(f.Hours))
	n.ask[hour]++
	checkAsk(t, f, hour, left, api.OK)
}

// checkClash looks at what there is no result of if there is no truth.
func checkClash(t *testing.T, f api.Flag) {
	t.Helper()
	checkUp(t, f, 0, 0, api.ErrClash)
	checkLong(t, f, span(0, 0), api.ErrClash)
	checkAsk(t, f, 0, 0, api.ErrClash)
	checkDown(t, f, 0, 0, api.ErrClash)
	checkUnder(t, f, 0, len(f.Hours), 0, api.ErrClash)
}

// checkHours looks at Up, Long, Under and Down.
func checkHours(t *testing.T, f api.Flag, list []truth, n *seen) {
	t.Helper()
	surely, perhaps, later := 0, 0, -1
	long := span(len(f.Hours), 0)
	for _, x := range list {
		long = span(min(long.Lo, x.long()), max(long.Hi, x.long()))
	}
	for hour := len(f.Hours) - 1; hour >= 0; hour-- {
		for to := hour + 1; to <= len(f.Hours); to++ {
			then := under(list, hour, to)
			n.under[then]++
			checkUnder(t, f, hour, to, then, api.OK)
		}
		switch under(list, hour, hour+1) {
		case 0:
			later = hour
		case 1:
			perhaps |= 1 << hour
		default:
			surely |= 1 << hour
			perhaps |= 1 << hour
		}
		if later < 0 {
			n.down[0]++
			checkDown(t, f, hour, 0, api.ErrNone)
		} else {
			n.down[1]++
			checkDown(t, f, hour, later, api.OK)
		}
	}
	checkUp(t, f, surely, perhaps, api.OK)
	checkLong(t, f, long, api.OK)
}

func elements(set int) (list []int) {
	for n := range 9 {
		if set>>n&1 == 1 {
			list = append(list, n)
		}
	}
	return list
}

// P10.9 and P2: what is true is told, and what was right is not said to be false.
func TestWhatIsTrueIsTold(t *testing.T) {
	hoisted, taken := 0, 0
	for seed := range uint64(2000) {
		f, weathers, x := story(source(10000+seed), 9)
		if n, e := flag.Count(f); n < 1 || e != api.OK {
			t.Fatal(seed, f, weathers, n, e)
		}
		checkWrong(t, f, api.ErrNone)
		surely, perhaps, e := flag.Up(f)
		if e != api.OK || surely&^perhaps != 0 {
			t.Error(seed, "Up", f, surely, perhaps, e)
		}
		if s, e := flag.Long(f); e != api.OK || x.long() < s.Lo || s.Hi < x.long() {
			t.Error(seed, "Long", f, x, s, e)
		}
		for hour, is := range x.up {
			if n, e := flag.Kinds(f, hour); n>>x.kinds[hour]&1 == 0 || e != api.OK {
				t.Error(seed, "Kinds", f, hour, n, e)
			}
			if is && perhaps>>hour&1 == 0 || !is && surely>>hour&1 == 1 {
				t.Error(seed, "Up", f, x, hour, surely, perhaps)
			}
			if down, e := flag.Down(f, hour); e == api.OK && (down < hour || x.up[down]) {
				t.Error(seed, "Down", f, x, hour, down)
			}
			checkTrueUnder(t, f, x, hour)
			if hour > 0 && is && !x.up[hour-1] {
				hoisted++
			}
			if hour > 0 && !is && x.up[hour-1] {
				taken++
			}
		}
	}
	if hoisted < 500 || taken < 500 {
		t.Error("the flags test one case only", hoisted, taken)
	}
}

// checkTrueUnder fails unless what is told of the hours from one on can be true.
func checkTrueUnder(t *testing.T, f api.Flag, x truth, from int) {
	t.Helper()
	for to := from + 1; to <= len(f.Hours); to++ {
		was := slices.Contains(x.up[from:to], true)
		if n, e := flag.Under(f, from, to); e != api.OK || was && n == api.FlagNever || !was && n == api.FlagAlways {
			t.Error("Under", f, x, from, to, n, e)
		}
	}
}

// P10.9: once it is hoisted it is up for at least as many hours as Quiet, and one more: that in which it was hoisted is not calm.
func TestUpForQuiet(t *testing.T) {
	hoisted := map[int]int{}
	for seed := range uint64(3000) {
		f, _, _ := story(source(20000+seed), 9)
		surely, perhaps, _ := flag.Up(f)
		for hour := range f.Hours {
			if surely>>hour&1 == 0 || hour > 0 && perhaps>>(hour-1)&1 == 1 {
				continue
			}
			hoisted[f.Quiet]++
			for later := hour; later < len(f.Hours) && later <= hour+f.Quiet; later++ {
				checkUnder(t, f, later, later+1, api.FlagAlways, api.OK)
			}
		}
	}
	for quiet := 1; quiet <= 4; quiet++ {
		if hoisted[quiet] < 100 {
			t.Error("the flags do not test all cases", hoisted)
		}
	}
}

// P10.6: with the answer no more truths are left than are told; all answers together leave all.
func TestAskTellsWhatIsLeft(t *testing.T) {
	asked := 0
	for seed := range uint64(800) {
		f := anyFlag(source(30000+seed), 8)
		best, left, e := flag.Ask(f)
		if e != api.OK {
			continue
		}
		asked++
		all, _ := flag.Count(f)
		for hour := range f.Hours {
			most, sum := 0, 0
			kinds, _ := flag.Kinds(f, hour)
			for _, kind := range elements(kinds) {
				n, e := flag.Count(answered(f, hour, kind))
				if e != api.OK {
					t.Error(seed, f, hour, kind, e)
				}
				most, sum = max(most, n), sum+n
			}
			if sum != all || most < left || most == left && hour < best || hour == best && most != left {
				t.Error(seed, "Ask", f, best, left, hour, most, sum, all)
			}
		}
	}
	if asked < 200 {
		t.Error("the flags test too little", asked)
	}
}

// answered is the same flag if an hour is known to be of a kind that it can be of.
func answered(f api.Flag, hour, kind int) api.Flag {
	f.Hours = slices.Clone(f.Hours)
	thunder := []int{0, 0, 2}[kind]
	wind := []int{0, f.Low, 0}[kind]
	f.Hours[hour] = api.FlagHour{Wind: span(wind, wind), Thunder: thunder}
	return f
}

// P10.9 and P2: with something more that was seen nothing is told less exactly.
func TestSeenMore(t *testing.T) {
	fewer := 0
	for seed := range uint64(2000) {
		r := source(40000 + seed)
		f := anyFlag(r, 9)
		if len(f.Seen) == 8 || len(f.Hours) == 0 {
			continue
		}
		g := f
		more := api.FlagSeen{Hour: r.IntN(len(f.Hours)), Up: r.IntN(2) == 0}
		g.Seen = slices.Insert(slices.Clone(f.Seen), r.IntN(len(f.Seen)+1), more)
		if notLessExact(t, f, g) {
			fewer++
		}
		checkLeftOut(t, f, g)
		for hour := range f.Hours {
			n, _ := flag.Kinds(f, hour)
			checkKinds(t, g, hour, elements(n)...)
		}
	}
	if fewer < 300 {
		t.Error("the flags test one case only", fewer)
	}
}

// checkLeftOut fails unless one thing more that was seen has to be left out at most, and nothing less.
func checkLeftOut(t *testing.T, f, g api.Flag) {
	t.Helper()
	before, _ := flag.Wrong(f)
	after, _ := flag.Wrong(g)
	if size(after) < size(before) || size(after) > size(before)+1 {
		t.Error("Wrong", f, g, before, after)
	}
}

// better is an hour that is known better.
func better(r *rand.Rand, h api.FlagHour) api.FlagHour {
	if h.Thunder == 1 && r.IntN(2) == 0 {
		h.Thunder = 2 * r.IntN(2)
		return h
	}
	h.Wind.Lo = from(r, h.Wind.Lo, h.Wind.Hi)
	h.Wind.Hi = from(r, h.Wind.Lo, h.Wind.Hi)
	return h
}

// P10.9 and P2: with an hour that is known better nothing is told less exactly.
func TestHourKnownBetter(t *testing.T) {
	fewer := 0
	for seed := range uint64(2000) {
		r := source(50000 + seed)
		f := anyFlag(r, 9)
		if len(f.Hours) == 0 {
			continue
		}
		g := f
		g.Hours = slices.Clone(f.Hours)
		hour := r.IntN(len(f.Hours))
		g.Hours[hour] = better(r, f.Hours[hour])
		if notLessExact(t, f, g) {
			fewer++
		}
		before, _ := flag.Wrong(f)
		after, _ := flag.Wrong(g)
		if size(after) < size(before) {
			t.Error(seed, "Wrong", f, g, before, after)
		}
		for n := range f.Hours {
			before, _ := flag.Kinds(f, n)
			after, e := flag.Kinds(g, n)
			if after&^before != 0 || n != hour && after != before || e != api.OK {
				t.Error(seed, "Kinds", f, g, n, before, after, e)
			}
		}
	}
	if fewer < 300 {
		t.Error("the flags test one case only", fewer)
	}
}

// notLessExact fails if something is told less exactly; it returns whether there are fewer truths.
func notLessExact(t *testing.T, f, g api.Flag) (fewer bool) {
	t.Helper()
	many, _ := flag.Count(f)
	after, e := flag.Count(g)
	if after > many || e != api.OK {
		t.Error("Count", f, g, many, after, e)
	}
	if after == 0 {
		checkClash(t, g)
		return many > 0
	}
	surely, perhaps, _ := flag.Up(f)
	if a, b, e := flag.Up(g); surely&^a != 0 || b&^perhaps != 0 || e != api.OK {
		t.Error("Up", f, g, surely, perhaps, a, b, e)
	}
	long, _ := flag.Long(f)
	if s, e := flag.Long(g); s.Lo < long.Lo || long.Hi < s.Hi || e != api.OK {
		t.Error("Long", f, g, long, s, e)
	}
	_, left, before := flag.Ask(f)
	if _, n, e := flag.Ask(g); n > left || before == api.ErrRefuse && e != before {
		t.Error("Ask", f, g, left, before, n, e)
	}
	for hour := range f.Hours {
		if down, e := flag.Down(f, hour); e == api.OK {
			if n, e := flag.Down(g, hour); n > down || e != api.OK {
				t.Error("Down", f, g, hour, down, n, e)
			}
		}
		for to := hour + 1; to <= len(f.Hours); to++ {
			if under, _ := flag.Under(f, hour, to); under != api.FlagPerhaps {
				checkUnder(t, g, hour, to, under, api.OK)
			}
		}
	}
	return after < many
}

// P10.9 and P11: the order of what was seen makes no difference, nor does the same seen twice.
func TestSeenOtherwise(t *testing.T) {
	for seed := range uint64(1000) {
		r := source(60000 + seed)
		f := anyFlag(r, 8)
		g := f
		g.Seen = slices.Clone(f.Seen)
		r.Shuffle(len(g.Seen), func(a, b int) { g.Seen[a], g.Seen[b] = g.Seen[b], g.Seen[a] })
		sameTold(t, f, g)
		before, e := flag.Wrong(f)
		if after, d := flag.Wrong(g); size(after) != size(before) || d != e {
			t.Error(seed, "Wrong", f, g, before, after, e, d)
		}
		if len(f.Seen) == 0 || len(f.Seen) == 8 {
			continue
		}
		g.Seen = append(slices.Clone(f.Seen), f.Seen[r.IntN(len(f.Seen))])
		sameTold(t, f, g)
		if _, d := flag.Wrong(g); d != e {
			t.Error(seed, "Wrong", f, g, e, d)
		}
	}
}

// sameTold fails unless the same is told of truths.
func sameTold(t *testing.T, f, g api.Flag) {
	t.Helper()
	many, _ := flag.Count(f)
	checkCount(t, g, many)
	surely, perhaps, e := flag.Up(f)
	checkUp(t, g, surely, perhaps, e)
	long, e := flag.Long(f)
	checkLong(t, g, long, e)
	hour, left, e := flag.Ask(f)
	checkAsk(t, g, hour, left, e)
	for from := range f.Hours {
		down, e := flag.Down(f, from)
		checkDown(t, g, from, down, e)
		for to := from + 1; to <= len(f.Hours); to++ {
			under, e := flag.Under(f, from, to)
			checkUnder(t, g, from, to, under, e)
		}
	}
}

// What is told of one hour by several functions agrees.
func TestFunctionsAgree(t *testing.T) {
	for seed := range uint64(1000) {
		f := anyFlag(source(70000+seed), 9)
		surely, perhaps, e := flag.Up(f)
		if e != api.OK {
			continue
		}
		long, _ := flag.Long(f)
		if long.Lo < size(surely) || size(perhaps) < long.Hi {
			t.Error(seed, "Long", f, surely, perhaps, long)
		}
		for hour := range f.Hours {
			checkUnder(t, f, hour, hour+1, surely>>hour&1+perhaps>>hour&1, api.OK)
			down, e := flag.Down(f, hour)
			for n := hour; n < len(f.Hours) && (n < down || e != api.OK); n++ {
				if perhaps>>n&1 == 0 {
					t.Error(seed, "Down", f, hour, down, e, n)
				}
			}
			if e == api.OK && perhaps>>down&1 == 1 {
				t.Error(seed, "Down", f, hour, down)
			}
		}
	}
}

// P1 and P11: the same call tells the same, whatever is called at the same time.
func TestSameCallSameResult(t *testing.T) {
	done := make(chan [6]int)
	for range 8 {
		go func() {
			surely, perhaps, _ := flag.Up(flagG())
			many, _ := flag.Count(whole(2))
			hour, left, _ := flag.Ask(flagG())
			seen, _ := flag.Wrong(flagN())
			done <- [6]int{surely, perhaps, many, hour, left, seen}
		}()
	}
	for range 8 {
		if x := <-done; x != [6]int{12, 62, 19683, 3, 3, 1} {
			t.Error(x)
		}
	}
}
