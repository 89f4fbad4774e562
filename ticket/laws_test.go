package ticket_test

import (
	"math/bits"
	"math/rand/v2"
	"slices"
	"testing"

	"dipworks/api"
	"dipworks/ticket"
)

// P3.1 to P3.7, of many tickets, against all truths.
func TestAgainstAllTruths(t *testing.T) {
	const many = 500
	clashes := 0
	for seed := range uint64(many) {
		r := source(seed)
		x := some(r, r.IntN(api.TicketMany+1))
		all := truths(x)
		set, e := ticket.Clash(x)
		if len(all) == 0 {
			clashes++
			if set != clash(x) || e != api.OK {
				t.Error(seed, "Clash", x, set, e, clash(x))
			}
			continue
		}
		if set != 0 || e != api.ErrNone {
			t.Error(seed, "Clash", x, set, e)
		}
		checkTickets(t, x, all)
		checkMinutes(t, r, x, all)
		checkSums(t, x, all)
	}
	if clashes < many/10 || clashes > many*9/10 {
		t.Error("the tickets test one case only", clashes)
	}
}

// checkTickets looks at Minutes, Turn and Passed.
func checkTickets(t *testing.T, x api.Tickets, all []truth) {
	for n := range x.Tickets {
		bought := ends(all, func(y truth) int { return y.bought[n] })
		door := ends(all, func(y truth) int { return y.door[n] })
		if b, d, e := ticket.Minutes(x, n); b != bought || d != door || e != api.OK {
			t.Error("Minutes", x, n, b, d, e, bought, door)
		}
		turn := how(count(all, func(y truth) bool { return passed(y, n) == 0 }), len(all))
		if i, e := ticket.Turn(x, n); i != turn || e != api.OK {
			t.Error("Turn", x, n, i, e, turn)
		}
		surely, perhaps := 0, 0
		for other := range x.Tickets {
			switch how(count(all, func(y truth) bool { return passes(y, n, other) }), len(all)) {
			case 2:
				surely |= 1 << other
				perhaps |= 1 << other
			case 1:
				perhaps |= 1 << other
			}
		}
		if a, b, e := ticket.Passed(x, n); a != surely || b != perhaps || e != api.OK {
			t.Error("Passed", x, n, a, b, e, surely, perhaps)
		}
	}
}

// checkMinutes looks at Whose and Free: at some minutes, and at those about a bound of a span, or of a half hour.
func checkMinutes(t *testing.T, r *rand.Rand, x api.Tickets, all []truth) {
	list := []int{0, api.TicketMinutes, r.IntN(api.TicketMinutes + 1)}
	for _, y := range x.Tickets {
		list = append(list, y.Bought.Lo-1, y.Bought.Lo, y.Bought.Hi, y.Door.Lo, y.Door.Hi, y.Door.Hi+1, y.Door.Lo+29, y.Door.Hi+29, y.Door.Hi+30)
	}
	slices.Sort(list)
	for _, m := range slices.Compact(list) {
		if m < 0 || m > api.TicketMinutes {
			continue
		}
		set, nobody := 0, false
		for _, y := range all {
			l := turns(y, m)
			nobody = nobody || len(l) == 0
			for _, n := range l {
				set |= 1 << n
			}
		}
		if s, is, e := ticket.Whose(x, m); s != set || is != nobody || e != api.OK {
			t.Error("Whose", x, m, s, is, e, set, nobody)
		}
		hut := r.IntN(x.Huts)
		want := how(count(all, func(y truth) bool { return free(x, y, hut, m) }), len(all))
		if n, e := ticket.Free(x, hut, m); n != want || e != api.OK {
			t.Error("Free", x, hut, m, n, e, want)
		}
	}
}

// checkSums looks at Waits, Busy and Wrong.
func checkSums(t *testing.T, x api.Tickets, all []truth) {
	if s, e := ticket.Waits(x); s != ends(all, longest) || e != api.OK {
		t.Error("Waits", x, s, e)
	}
	// The oracle counts huts at each minute of the day: of many truths it is enough to look at some.
	some := all[:min(len(all), 50)]
	busy := ends(some, func(y truth) int { return busiest(x, y) })
	if s, e := ticket.Busy(x); !covers(s, busy) || len(some) == len(all) && s != busy || e != api.OK {
		t.Error("Busy", x, s, e, busy)
	}
	if s, e := ticket.Wrong(x); s != ends(all, wrong) || e != api.OK {
		t.Error("Wrong", x, s, e)
	}
}

// covers returns whether the span s contains all that the span of contains.
func covers(s, of api.Span) bool { return s.Lo <= of.Lo && of.Hi <= s.Hi }

func holds(s api.Span, n int) bool { return covers(s, span(n, n)) }

// P3.8, P2 and P5: what is true is told.
func TestWhatIsTrueIsTold(t *testing.T) {
	for seed := range uint64(300) {
		r := source(1000 + seed)
		x, all := possible(r, api.TicketMany)
		y := all[r.IntN(len(all))]
		for n := range x.Tickets {
			b, d, e := ticket.Minutes(x, n)
			if !holds(b, y.bought[n]) || !holds(d, y.door[n]) || e != api.OK {
				t.Error(seed, "Minutes", x, y, n, b, d, e)
			}
			turn, _ := ticket.Turn(x, n)
			if inTurn := passed(y, n) == 0; turn == api.TicketAlways && !inTurn || turn == api.TicketNever && inTurn {
				t.Error(seed, "Turn", x, y, n, turn)
			}
			surely, perhaps, _ := ticket.Passed(x, n)
			if surely&^passed(y, n) != 0 || passed(y, n)&^perhaps != 0 {
				t.Error(seed, "Passed", x, y, n, surely, perhaps)
			}
			if (turn == api.TicketAlways) != (perhaps == 0) || surely != 0 && turn != api.TicketNever {
				t.Error(seed, "Turn and Passed", x, n, turn, surely, perhaps)
			}
		}
		for range 10 {
			m := r.IntN(120)
			set, nobody, _ := ticket.Whose(x, m)
			l := turns(y, m)
			if len(l) == 0 && !nobody || len(l) == 1 && set>>l[0]&1 == 0 || set == 0 && !nobody {
				t.Error(seed, "Whose", x, y, m, set, nobody)
			}
		}
		waits, _ := ticket.Waits(x)
		busy, _ := ticket.Busy(x)
		wrongs, _ := ticket.Wrong(x)
		if !holds(waits, longest(y)) || !holds(busy, busiest(x, y)) || !holds(wrongs, wrong(y)) {
			t.Error(seed, x, y, waits, busy, wrongs)
		}
	}
}

// P3.8: if no ticket is ever passed over each is always in turn.
func TestNobodyPassedOver(t *testing.T) {
	never := 0
	for seed := range uint64(300) {
		x, _ := possible(source(2000+seed), 3)
		some := 0
		for n := range x.Tickets {
			_, perhaps, _ := ticket.Passed(x, n)
			some |= perhaps
		}
		s, _ := ticket.Wrong(x)
		if (some == 0) != (s == span(0, 0)) {
			t.Error(seed, "Wrong", x, some, s)
		}
		if some != 0 {
			continue
		}
		never++
		for n := range x.Tickets {
			if turn, e := ticket.Turn(x, n); turn != api.TicketAlways || e != api.OK {
				t.Error(seed, x, n, turn, e)
			}
		}
	}
	if never < 30 || never > 270 {
		t.Error("the tickets test one case only", never)
	}
}

// P3.8 and P5: if all is known it is the turn of one, just if anybody waits; nothing is perhaps so.
func TestAllIsKnown(t *testing.T) {
	for seed := range uint64(150) {
		r := source(3000 + seed)
		x, all := possible(r, api.TicketMany)
		y := all[r.IntN(len(all))]
		x = known(x, y)
		for m := range 130 {
			set, nobody, e := ticket.Whose(x, m)
			if nobody != (len(turns(y, m)) == 0) || (bits.OnesCount(uint(set)) == 1) == nobody || bits.OnesCount(uint(set)) > 1 || e != api.OK {
				t.Error(seed, "Whose", x, m, set, nobody, e)
			}
			if n, e := ticket.Free(x, 0, m); n == api.TicketPerhaps || e != api.OK {
				t.Error(seed, "Free", x, m, n, e)
			}
		}
		for n := range x.Tickets {
			if turn, e := ticket.Turn(x, n); turn == api.TicketPerhaps || e != api.OK {
				t.Error(seed, "Turn", x, n, turn, e)
			}
			if a, b, e := ticket.Passed(x, n); a != b || e != api.OK {
				t.Error(seed, "Passed", x, n, a, b, e)
			}
		}
		checkSums(t, x, []truth{y})
	}
}

// P3.9 and P2: if a minute is known better nothing is told less exactly.
func TestKnownBetter(t *testing.T) {
	for seed := range uint64(300) {
		r := source(4000 + seed)
		x, all := possible(r, api.TicketMany)
		if len(x.Tickets) == 0 {
			continue
		}
		y := all[r.IntN(len(all))]
		n := r.IntN(len(x.Tickets))
		better := api.Tickets{Huts: x.Huts, Tickets: slices.Clone(x.Tickets)}
		if b := &better.Tickets[n]; r.IntN(2) == 0 {
			b.Bought = span(from(r, b.Bought.Lo, y.bought[n]), from(r, y.bought[n], b.Bought.Hi))
		} else {
			b.Door = span(from(r, b.Door.Lo, y.door[n]), from(r, y.door[n], b.Door.Hi))
		}
		noLess(t, r, x, better)
	}
}

// noLess fails if the better tickets tell something less exactly.
func noLess(t *testing.T, r *rand.Rand, x, better api.Tickets) {
	for n := range x.Tickets {
		b, d, _ := ticket.Minutes(x, n)
		if b2, d2, e := ticket.Minutes(better, n); !covers(b, b2) || !covers(d, d2) || e != api.OK {
			t.Error("Minutes", x, better, n, b, d, b2, d2, e)
		}
		i, _ := ticket.Turn(x, n)
		if j, e := ticket.Turn(better, n); i != api.TicketPerhaps && i != j || e != api.OK {
			t.Error("Turn", x, better, n, i, j, e)
		}
		surely, perhaps, _ := ticket.Passed(x, n)
		if s, p, e := ticket.Passed(better, n); surely&^s != 0 || p&^perhaps != 0 || e != api.OK {
			t.Error("Passed", x, better, n, surely, perhaps, s, p, e)
		}
	}
	for range 10 {
		m, hut := r.IntN(130), r.IntN(x.Huts)
		set, nobody, _ := ticket.Whose(x, m)
		if s, is, e := ticket.Whose(better, m); s&^set != 0 || is && !nobody || e != api.OK {
			t.Error("Whose", x, better, m, set, nobody, s, is, e)
		}
		i, _ := ticket.Free(x, hut, m)
		if j, e := ticket.Free(better, hut, m); i != api.TicketPerhaps && i != j || e != api.OK {
			t.Error("Free", x, better, hut, m, i, j, e)
		}
	}
	for i, f := range sums() {
		s, _ := f(x)
		if u, e := f(better); !covers(s, u) || e != api.OK {
			t.Error("sum", i, x, better, s, u, e)
		}
	}
}

// sums are the functions that tell one span of all tickets.
func sums() []func(api.Tickets) (api.Span, api.Errno) {
	return []func(api.Tickets) (api.Span, api.Errno){ticket.Waits, ticket.Busy, ticket.Wrong}
}

// P3.9 and P11: if huts are numbered otherwise only their numbers change.
func TestHutsNumberedOtherwise(t *testing.T) {
	for seed := range uint64(200) {
		r := source(5000 + seed)
		x := some(r, r.IntN(api.TicketMany+1))
		number := r.Perm(x.Huts)
		other := api.Tickets{Huts: x.Huts, Tickets: slices.Clone(x.Tickets)}
		for i := range other.Tickets {
			other.Tickets[i].Hut = number[x.Tickets[i].Hut]
		}
		sameOf(t, x, other, 0, func(hut int) int { return number[hut] })
	}
}

// P3.9: if all is so many minutes later so is what is told of minutes.
func TestAllIsLater(t *testing.T) {
	for seed := range uint64(200) {
		r := source(6000 + seed)
		x := some(r, r.IntN(api.TicketMany+1))
		last := 0
		for _, y := range x.Tickets {
			last = max(last, y.Bought.Hi, y.Door.Hi)
		}
		later := api.TicketMinutes - last
		if seed%2 == 0 {
			later = r.IntN(later + 1)
		}
		other := api.Tickets{Huts: x.Huts}
		for _, y := range x.Tickets {
			other.Tickets = append(other.Tickets, one(y.Bought.Lo+later, y.Bought.Hi+later, y.Hut, y.Door.Lo+later, y.Door.Hi+later))
		}
		sameOf(t, x, other, later, func(hut int) int { return hut })
	}
}

// sameOf fails unless the other tickets tell the same, but so many minutes later, and with other numbers of huts.
func sameOf(t *testing.T, x, other api.Tickets, later int, hut func(int) int) {
	set, e := ticket.Clash(x)
	if s, f := ticket.Clash(other); s != set || f != e {
		t.Error("Clash", x, other, set, e, s, f)
	}
	clashes := api.OK
	if e == api.OK {
		clashes = api.ErrClash
	}
	for i, f := range sums() {
		s, e := f(x)
		if u, g := f(other); s != u || e != clashes || g != clashes {
			t.Error("sum", i, x, other, s, e, u, g)
		}
	}
	for n := range x.Tickets {
		sameTicket(t, x, other, n, later)
	}
	for m := range api.TicketMinutes + 1 - later {
		if m%3 != 0 {
			continue
		}
		a, is, e := ticket.Whose(x, m)
		if b, is2, f := ticket.Whose(other, m+later); a != b || is != is2 || e != f || e != clashes {
			t.Error("Whose", x, other, m, a, is, e, b, is2, f)
		}
		h := m % x.Huts
		a, e = ticket.Free(x, h, m)
		if b, f := ticket.Free(other, hut(h), m+later); a != b || e != f || e != clashes {
			t.Error("Free", x, other, h, m, a, e, b, f)
		}
	}
}

func sameTicket(t *testing.T, x, other api.Tickets, n, later int) {
	b, d, e := ticket.Minutes(x, n)
	if e == api.OK {
		b, d = span(b.Lo+later, b.Hi+later), span(d.Lo+later, d.Hi+later)
	}
	if b2, d2, f := ticket.Minutes(other, n); b != b2 || d != d2 || e != f {
		t.Error("Minutes", x, other, n, b, d, e, b2, d2, f)
	}
	i, e := ticket.Turn(x, n)
	if j, f := ticket.Turn(other, n); i != j || e != f {
		t.Error("Turn", x, other, n, i, e, j, f)
	}
	surely, perhaps, e := ticket.Passed(x, n)
	if s, p, f := ticket.Passed(other, n); s != surely || p != perhaps || e != f {
		t.Error("Passed", x, other, n, surely, perhaps, e, s, p, f)
	}
}

// P11: where no two tickets can have been bought at the same minute their order makes no difference but to their numbers.
func TestOrderOfTickets(t *testing.T) {
	for seed := range uint64(100) {
		r := source(7000 + seed)
		x := some(r, r.IntN(api.TicketMany+1))
		for i := range x.Tickets {
			b := 3*i + r.IntN(3)
			x.Tickets[i].Bought = span(b, b)
		}
		number := r.Perm(len(x.Tickets))
		other := api.Tickets{Huts: x.Huts, Tickets: make([]api.Ticket, len(x.Tickets))}
		for old, y := range x.Tickets {
			other.Tickets[number[old]] = y
		}
		for i, f := range sums() {
			s, e := f(x)
			if u, g := f(other); s != u || e != g {
				t.Error("sum", i, x, other, s, e, u, g)
			}
		}
		for old, new := range number {
			b, d, e := ticket.Minutes(x, old)
			if b2, d2, f := ticket.Minutes(other, new); b != b2 || d != d2 || e != f {
				t.Error("Minutes", x, other, old, new)
			}
			i, e := ticket.Turn(x, old)
			if j, f := ticket.Turn(other, new); i != j || e != f {
				t.Error("Turn", x, other, old, new, i, e, j, f)
			}
		}
		a, e := ticket.Clash(x)
		if b, f := ticket.Clash(other); bits.OnesCount(uint(a)) != bits.OnesCount(uint(b)) || e != f {
			t.Error("Clash", x, other, a, e, b, f)
		}
	}
}

// P1 and P11: the same call tells the same, whatever is called at the same time.
func TestSameCallSameResult(t *testing.T) {
	done := make(chan [3]int)
	for range 8 {
		go func() {
			b, d, _ := ticket.Minutes(widest(), 0)
			n, _ := ticket.Turn(widest(), 3)
			done <- [3]int{b.Hi, d.Lo, n}
		}()
	}
	for range 8 {
		if x := <-done; x != [3]int{2, 10, api.TicketPerhaps} {
			t.Error(x)
		}
	}
}
