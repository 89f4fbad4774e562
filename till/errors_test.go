package till_test

import (
	"math"
	"slices"
	"testing"

	"dipworks/api"
	"dipworks/till"
)

const low, high = math.MinInt, math.MaxInt

// call is a function, what it takes beside the till, and what it does: its error, and whether all else is zero.
type call struct {
	name                string
	takesOne, takesBook bool
	do                  func(x api.Till, n int, b []api.TillEntry) (api.Errno, bool)
}

func calls() []call {
	return []call{
		{"Takings", false, false, func(x api.Till, _ int, _ []api.TillEntry) (api.Errno, bool) {
			n, e := till.Takings(x)
			return e, n == 0
		}},
		{"Fine", true, false, func(x api.Till, n int, _ []api.TillEntry) (api.Errno, bool) {
			s, e := till.Fine(x, n)
			return e, s == span(0, 0)
		}},
		{"Fines", false, false, func(x api.Till, _ int, _ []api.TillEntry) (api.Errno, bool) {
			s, e := till.Fines(x)
			return e, s == span(0, 0)
		}},
		{"Back", true, false, func(x api.Till, n int, _ []api.TillEntry) (api.Errno, bool) {
			s, e := till.Back(x, n)
			return e, s == span(0, 0)
		}},
		{"Check", false, true, func(x api.Till, _ int, b []api.TillEntry) (api.Errno, bool) {
			n, r, e := till.Check(x, b)
			return e, n == 0 && r == 0
		}},
		{"Missing", false, true, func(x api.Till, _ int, b []api.TillEntry) (api.Errno, bool) {
			p, f, k, e := till.Missing(x, b)
			return e, p == 0 && f == 0 && k == 0
		}},
		{"Sum", false, true, func(x api.Till, _ int, b []api.TillEntry) (api.Errno, bool) {
			n, e := till.Sum(x, b)
			return e, n == 0
		}},
	}
}

// expect fails unless a call has an error, and with it no other result.
func (c call) expect(t *testing.T, x api.Till, n int, b []api.TillEntry, want api.Errno) {
	t.Helper()
	if e, zero := c.do(x, n, b); e != want || !zero {
		t.Error(c.name, x, n, b, e, zero, want)
	}
}

// invalid are tills that are not valid, each for one reason.
func invalid() (list []api.Till) {
	add := func(change func(x *api.Till)) {
		x := tillT()
		change(&x)
		list = append(list, x)
	}
	for _, n := range []int{low, low + 1, -100, -2, -1, 101, 102, high - 1, high} {
		add(func(x *api.Till) { x.Price = n })
		add(func(x *api.Till) { x.Fine = n })
		add(func(x *api.Till) { x.Wait = n })
	}
	for _, n := range []int{low, -1, 0, 1, 5, 6, high} {
		add(func(x *api.Till) { x.Tickets.Huts = n })
	}
	add(func(x *api.Till) { x.Tickets.Tickets = slices.Repeat(x.Tickets.Tickets[:1], 6) })
	for n := range 3 {
		for _, hut := range []int{low, -1, 2, 3, high} {
			add(func(x *api.Till) { x.Tickets.Tickets[n].Hut = hut })
		}
		for _, s := range []api.Span{span(1, 0), span(-1, 0), span(-1, -1), span(0, 3), span(240, 241), span(241, 241), span(low, high), span(high, low), span(low, low), span(high, high)} {
			add(func(x *api.Till) { x.Tickets.Tickets[n].Bought = s })
			add(func(x *api.Till) { x.Tickets.Tickets[n].Door = s })
		}
	}
	clash := tillN()
	clash.Price = 101
	return append(list, api.Till{}, of(1, 1, 1, 0), clash)
}

// books are some that are right, too long, of no tickets, or of no kinds.
func books() [][]api.TillEntry {
	return [][]api.TillEntry{nil, bookL(), book(entry(0, 1, 11)), make([]api.TillEntry, 20), make([]api.TillEntry, 21), book(entry(low, high, low)), book(entry(3, 0, 0))}
}

// ErrArg comes first, whatever else is wrong.
func TestInvalidTills(t *testing.T) {
	for _, x := range invalid() {
		for _, c := range calls() {
			for _, n := range []int{low, -1, 0, 1, 2, 3, high} {
				for _, b := range books() {
					c.expect(t, x, n, b, api.ErrArg)
				}
			}
		}
	}
}

// Tills that go as far as they may are valid.
func TestLimits(t *testing.T) {
	for _, n := range []int{0, 1, 99, 100} {
		x := tillT()
		x.Price = n
		checkTakings(t, x, 3*n, api.OK)
		x.Fine = n
		checkFines(t, x, span(n, n), api.OK)
		x.Wait = n
		checkBack(t, x, 2, span(3*n, 3*n), api.OK)
	}
	for huts := 2; huts <= 4; huts++ {
		x := tillT()
		x.Tickets.Huts = huts
		checkRight(t, x, bookL(), 23)
	}
	five := widest()
	for n := range 5 {
		for _, c := range calls() {
			if e, _ := c.do(five, n, book(entry(n, 1, 100))); e != api.OK && !(c.name == "Check" && e == api.ErrNone) {
				t.Error(c.name, n, e)
			}
		}
	}
}

// ErrLong comes before ErrRange and what else there is; twenty entries are not too many.
func TestLongBooks(t *testing.T) {
	for _, x := range []api.Till{tillT(), tillN(), of(1, 1, 1, 1)} {
		for _, c := range calls() {
			if !c.takesBook {
				continue
			}
			for _, many := range []int{21, 22, 1000} {
				c.expect(t, x, 0, make([]api.TillEntry, many), api.ErrLong)
				c.expect(t, x, 0, slices.Repeat(book(entry(0, 1, 12)), many), api.ErrLong)
				c.expect(t, x, 0, slices.Repeat(book(entry(3, 1, 12)), many), api.ErrLong)
			}
		}
	}
	twenty := slices.Repeat(book(entry(0, 1, 12)), 20)
	checkFault(t, tillT(), twenty, 1, api.TillTwice)
	checkMissing(t, tillT(), twenty, [3]int{6, 2, 5}, api.OK)
	checkCheck(t, tillN(), twenty, 0, 0, api.ErrClash)
	checkCheck(t, of(1, 1, 1, 1), twenty, 0, 0, api.ErrRange)
}

// ErrRange comes before ErrClash and what else there is, whichever entry has it.
func TestRanges(t *testing.T) {
	for _, x := range []api.Till{tillT(), tillN()} {
		for _, c := range calls() {
			for _, n := range []int{low, low + 1, -2, -1, 3, 4, 5, high - 1, high} {
				if c.takesOne {
					c.expect(t, x, n, nil, api.ErrRange)
				}
				for at := range 5 {
					if !c.takesBook {
						break
					}
					c.expect(t, x, 0, slices.Insert(bookL(), at, entry(n, 1, 12)), api.ErrRange)
					c.expect(t, x, 0, slices.Insert(book(entry(0, 1, 1), entry(0, 1, 1), entry(0, 2, 5), entry(0, 3, 0)), at, entry(n, 1, 12)), api.ErrRange)
				}
			}
			for _, kind := range []int{low, low + 1, -1, 0, 4, 5, high - 1, high} {
				for at := range 5 {
					if c.takesBook {
						c.expect(t, x, 0, slices.Insert(bookL(), at, entry(1, kind, 12)), api.ErrRange)
					}
				}
			}
		}
	}
	nobody := of(3, 3, 3, 1)
	checkFine(t, nobody, 0, span(0, 0), api.ErrRange)
	checkBack(t, nobody, 0, span(0, 0), api.ErrRange)
	checkCheck(t, nobody, book(entry(0, 1, 3)), 0, 0, api.ErrRange)
}

// ErrClash comes before what is wrong with a book, if the tickets have no truth; but Takings does not look at that.
func TestNoTruth(t *testing.T) {
	meet := of(12, 5, 2, 1, one(0, 0, 0, 10, 12), one(0, 0, 0, 41, 41), one(0, 0, 0, 70, 70))
	for _, x := range []api.Till{tillN(), meet, of(12, 5, 2, 1, one(5, 6, 0, 2, 4), one(5, 6, 0, 102, 104))} {
		for _, c := range calls() {
			for n := range x.Tickets.Tickets {
				for _, b := range [][]api.TillEntry{nil, book(entry(0, 1, 12)), book(entry(0, 1, 11)), slices.Repeat(book(entry(0, 1, 12)), 20)} {
					if c.name != "Takings" {
						c.expect(t, x, n, b, api.ErrClash)
					}
				}
			}
		}
		checkTakings(t, x, 12*len(x.Tickets.Tickets), api.OK)
	}
	meet.Tickets.Tickets[1].Door = span(40, 40)
	checkFines(t, meet, span(0, 0), api.OK)
}

// R3: nil lists and empty ones are the same; without tickets nothing is taken.
func TestNothing(t *testing.T) {
	for _, tickets := range [][]api.Ticket{nil, {}} {
		x := of(12, 5, 2, 4, tickets...)
		checkTakings(t, x, 0, api.OK)
		checkFines(t, x, span(0, 0), api.OK)
		for _, b := range [][]api.TillEntry{nil, {}} {
			checkRight(t, x, b, 0)
			checkMissing(t, x, b, [3]int{}, api.OK)
			checkRight(t, tillT(), b, 0)
			checkMissing(t, tillT(), b, [3]int{7, 2, 5}, api.OK)
		}
	}
}

// R4: no argument is changed, nor what lies behind it in memory.
func TestArgumentsStay(t *testing.T) {
	for _, x := range []api.Till{tillT(), tillN(), widest(), either()} {
		for _, b := range books() {
			tickets := append(slices.Clone(x.Tickets.Tickets), one(0, 0, 0, 0, 0), one(1, 1, 1, 1, 1))
			entries := append(slices.Clone(b), entry(0, 1, 1), entry(1, 2, 3))
			sameTickets, sameEntries := slices.Clone(tickets), slices.Clone(entries)
			y := x
			y.Tickets.Tickets = tickets[:len(x.Tickets.Tickets)]
			for _, c := range calls() {
				c.do(y, 1, entries[:len(b)])
			}
			if !slices.Equal(tickets, sameTickets) || !slices.Equal(entries, sameEntries) {
				t.Fatal(x, b, tickets, entries)
			}
		}
	}
}

// P1 and P11: nothing is kept from call to call, nor between calls at the same time.
func TestCallsKnowNothingOfOneAnother(t *testing.T) {
	for range 2 {
		TestExamples(t)
		for _, c := range calls() {
			c.do(api.Till{}, 0, nil)
			c.do(tillN(), 0, bookL())
			c.do(tillT(), -1, make([]api.TillEntry, 21))
			c.do(widest(), 1, book(entry(0, 1, 100)))
		}
	}
	done := make(chan int)
	for range 8 {
		go func() {
			n, _ := till.Sum(tillT(), bookL())
			s, _ := till.Fines(widest())
			done <- n + s.Hi
		}()
	}
	for range 8 {
		if n := <-done; n != 423 {
			t.Error(n)
		}
	}
}
