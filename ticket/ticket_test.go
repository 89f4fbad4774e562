package ticket_test

import (
	"math"
	"slices"
	"testing"

	"dipworks/api"
	"dipworks/ticket"
)

func span(lo, hi int) api.Span { return api.Span{Lo: lo, Hi: hi} }

// one is a ticket that was bought from a to b, for a hut, of which the door was closed from c to d.
func one(a, b, hut, c, d int) api.Ticket {
	return api.Ticket{Bought: span(a, b), Hut: hut, Door: span(c, d)}
}

func desk(huts int, l ...api.Ticket) api.Tickets { return api.Tickets{Huts: huts, Tickets: l} }

// ticketsU and ticketsV are those of the examples.
func ticketsU() api.Tickets {
	return desk(2, one(0, 0, 0, 10, 11), one(2, 3, 1, 8, 8), one(3, 4, 0, 40, 41))
}

func ticketsV() api.Tickets {
	v := ticketsU()
	v.Tickets[2].Door = span(38, 39)
	return v
}

// widest is tickets of as many truths as there can be.
func widest() api.Tickets {
	return desk(4, one(0, 2, 0, 10, 12), one(0, 2, 1, 10, 12), one(0, 2, 2, 10, 12), one(0, 2, 3, 10, 12), one(0, 2, 0, 42, 44))
}

func TestExamples(t *testing.T) {
	u, v := ticketsU(), ticketsV()
	for n, want := range map[int][2]api.Span{0: {span(0, 0), span(10, 11)}, 2: {span(3, 4), span(40, 41)}} {
		if b, d, e := ticket.Minutes(u, n); b != want[0] || d != want[1] || e != api.OK {
			t.Error("Minutes", n, b, d, e)
		}
	}
	for n, want := range []int{2, 0, 2} {
		if i, e := ticket.Turn(u, n); i != want || e != api.OK {
			t.Error("Turn", n, i, e)
		}
	}
	for n, want := range []int{0, 1, 0} {
		if a, b, e := ticket.Passed(u, n); a != want || b != want || e != api.OK {
			t.Error("Passed", n, a, b, e)
		}
	}
	for _, x := range []struct {
		minute, set int
		nobody      bool
	}{{5, 1, false}, {11, 5, false}, {12, 4, false}, {41, 4, true}} {
		if n, is, e := ticket.Whose(u, x.minute); n != x.set || is != x.nobody || e != api.OK {
			t.Error("Whose", x, n, is, e)
		}
	}
	for _, x := range []struct{ hut, minute, want int }{{0, 40, 1}, {1, 8, 0}, {1, 38, 2}} {
		if n, e := ticket.Free(u, x.hut, x.minute); n != x.want || e != api.OK {
			t.Error("Free", x, n, e)
		}
	}
	for i, want := range []api.Span{span(36, 38), span(2, 2), span(1, 1)} {
		if s, e := sums()[i](u); s != want || e != api.OK {
			t.Error("sum", i, s, e)
		}
	}
	if n, e := ticket.Clash(v); n != 5 || e != api.OK {
		t.Error("Clash", n, e)
	}
	if n, e := ticket.Clash(u); n != 0 || e != api.ErrNone {
		t.Error("Clash", n, e)
	}
	if n, e := ticket.Turn(v, 0); n != 0 || e != api.ErrClash {
		t.Error("Turn", n, e)
	}
}

// P3.1: what of a minute cannot be so is left out.
func TestMinutes(t *testing.T) {
	for i, x := range []struct {
		t            api.Tickets
		n            int
		bought, door api.Span
	}{
		{desk(1, one(5, 7, 0, 4, 6)), 0, span(5, 6), span(5, 6)},
		{desk(1, one(5, 7, 0, 5, 7)), 0, span(5, 7), span(5, 7)},
		{desk(1, one(7, 9, 0, 5, 7)), 0, span(7, 7), span(7, 7)},
		{desk(1, one(0, 0, 0, 0, 0)), 0, span(0, 0), span(0, 0)},
		{desk(4, one(240, 240, 3, 238, 240)), 0, span(240, 240), span(240, 240)},
		{desk(1, one(0, 2, 0, 10, 12), one(0, 2, 0, 40, 42)), 0, span(0, 2), span(10, 12)},
		{desk(1, one(0, 2, 0, 10, 12), one(0, 2, 0, 40, 40)), 0, span(0, 2), span(10, 10)},
		{desk(1, one(0, 2, 0, 10, 12), one(0, 2, 0, 39, 41)), 0, span(0, 2), span(10, 11)},
		{desk(1, one(0, 2, 0, 10, 12), one(0, 2, 0, 39, 41)), 1, span(0, 2), span(40, 41)},
		{desk(2, one(0, 2, 0, 10, 12), one(0, 2, 1, 39, 41)), 0, span(0, 2), span(10, 12)},
		// The later door comes first in the list.
		{desk(1, one(0, 2, 0, 39, 41), one(9, 11, 0, 10, 12)), 1, span(9, 11), span(10, 11)},
		// Of three doors of a hut the third one bounds the first one.
		{desk(1, one(0, 0, 0, 10, 12), one(0, 0, 0, 40, 42), one(0, 0, 0, 70, 71)), 0, span(0, 0), span(10, 11)},
		// The ticket was bought before its door was closed, early enough for the next one.
		{desk(1, one(10, 12, 0, 10, 12), one(40, 42, 0, 40, 41)), 0, span(10, 11), span(10, 11)},
	} {
		if b, d, e := ticket.Minutes(x.t, x.n); b != x.bought || d != x.door || e != api.OK {
			t.Error(i, b, d, e)
		}
	}
}

// P3.2 and P3.3, with P3.6's Wrong: to the minute, and to the number of a ticket.
func TestInTurn(t *testing.T) {
	for i, x := range []struct {
		t               api.Tickets
		n               int
		turn            int
		surely, perhaps int
		wrong           api.Span
	}{
		{desk(1, one(5, 5, 0, 9, 9)), 0, api.TicketAlways, 0, 0, span(0, 0)},
		// Bought later, and closed earlier: by a minute each.
		{desk(2, one(4, 4, 0, 9, 9), one(5, 5, 1, 8, 8)), 1, api.TicketNever, 1, 1, span(1, 1)},
		{desk(2, one(4, 4, 0, 9, 9), one(5, 5, 1, 8, 8)), 0, api.TicketAlways, 0, 0, span(1, 1)},
		{desk(2, one(5, 5, 0, 8, 8), one(4, 4, 1, 9, 9)), 0, api.TicketNever, 2, 2, span(1, 1)},
		{desk(2, one(4, 4, 0, 9, 9), one(5, 5, 1, 9, 9)), 1, api.TicketAlways, 0, 0, span(0, 0)},
		{desk(2, one(4, 4, 0, 9, 9), one(5, 5, 1, 10, 10)), 1, api.TicketAlways, 0, 0, span(0, 0)},
		// Of two bought at the same minute the lesser number is before.
		{desk(2, one(5, 5, 0, 9, 9), one(5, 5, 1, 8, 8)), 1, api.TicketNever, 1, 1, span(1, 1)},
		{desk(2, one(5, 5, 0, 9, 9), one(5, 5, 1, 8, 8)), 0, api.TicketAlways, 0, 0, span(1, 1)},
		{desk(2, one(5, 5, 0, 8, 8), one(5, 5, 1, 9, 9)), 0, api.TicketAlways, 0, 0, span(0, 0)},
		{desk(2, one(5, 5, 0, 8, 8), one(5, 5, 1, 8, 8)), 1, api.TicketAlways, 0, 0, span(0, 0)},
		// Perhaps bought earlier, or perhaps closed later.
		{desk(2, one(4, 6, 0, 9, 9), one(5, 5, 1, 8, 8)), 1, api.TicketPerhaps, 0, 1, span(0, 1)},
		{desk(2, one(4, 4, 0, 8, 9), one(5, 5, 1, 8, 8)), 1, api.TicketPerhaps, 0, 1, span(0, 1)},
		// One of two is passed over in each truth, and no one in all.
		{desk(3, one(4, 5, 0, 9, 9), one(5, 5, 1, 8, 8), one(4, 4, 2, 8, 9)), 1, api.TicketNever, 1, 5, span(1, 2)},
		{desk(3, one(4, 6, 0, 9, 9), one(5, 5, 1, 8, 8), one(5, 7, 2, 9, 9)), 1, api.TicketPerhaps, 0, 1, span(0, 1)},
		// A ticket of the same hut is passed over, too.
		{desk(1, one(4, 4, 0, 40, 40), one(5, 5, 0, 8, 8)), 1, api.TicketNever, 1, 1, span(1, 1)},
		{desk(4, one(0, 0, 0, 9, 9), one(1, 1, 1, 8, 8), one(2, 2, 2, 7, 7), one(3, 3, 3, 6, 6), one(4, 4, 3, 36, 36)), 3, api.TicketNever, 7, 7, span(3, 3)},
		{desk(4, one(0, 0, 0, 45, 45), one(0, 0, 1, 45, 45), one(0, 0, 2, 45, 45), one(0, 0, 3, 45, 45), one(0, 0, 3, 4, 4)), 4, api.TicketNever, 15, 15, span(1, 1)},
		{desk(1, one(0, 0, 0, 120, 120), one(0, 0, 0, 90, 90), one(0, 0, 0, 60, 60), one(0, 0, 0, 30, 30), one(0, 0, 0, 0, 0)), 4, api.TicketNever, 15, 15, span(4, 4)},
	} {
		if n, e := ticket.Turn(x.t, x.n); n != x.turn || e != api.OK {
			t.Error(i, "Turn", n, e)
		}
		if a, b, e := ticket.Passed(x.t, x.n); a != x.surely || b != x.perhaps || e != api.OK {
			t.Error(i, "Passed", a, b, e)
		}
		if s, e := ticket.Wrong(x.t); s != x.wrong || e != api.OK {
			t.Error(i, "Wrong", s, e)
		}
	}
	if api.TicketNever != 0 || api.TicketPerhaps != 1 || api.TicketAlways != 2 {
		t.Error("the chapter's numbers")
	}
}

// P3.4: both minutes of a wait count.
func TestWhose(t *testing.T) {
	exact := desk(2, one(5, 5, 0, 9, 9), one(7, 7, 1, 12, 12))
	same := desk(2, one(5, 5, 0, 9, 9), one(5, 5, 1, 12, 12))
	perhaps := desk(2, one(5, 7, 0, 9, 10), one(6, 6, 1, 12, 12))
	for i, x := range []struct {
		t           api.Tickets
		minute, set int
		nobody      bool
	}{
		{exact, 4, 0, true}, {exact, 5, 1, false}, {exact, 7, 1, false}, {exact, 9, 1, false}, {exact, 10, 2, false}, {exact, 12, 2, false}, {exact, 13, 0, true},
		{same, 5, 1, false}, {same, 9, 1, false}, {same, 10, 2, false},
		{perhaps, 4, 0, true}, {perhaps, 5, 1, true}, {perhaps, 6, 3, false}, {perhaps, 8, 3, false}, {perhaps, 10, 3, false}, {perhaps, 11, 2, false},
		{desk(1), 0, 0, true}, {desk(4), 240, 0, true},
		{desk(1, one(0, 0, 0, 0, 0)), 0, 1, false}, {desk(1, one(0, 1, 0, 0, 1)), 0, 1, true}, {desk(1, one(0, 0, 0, 0, 0)), 1, 0, true},
		{desk(1, one(240, 240, 0, 240, 240)), 240, 1, false}, {desk(1, one(240, 240, 0, 240, 240)), 239, 0, true},
		// Who is in a hut does not wait, and whoever waits alone has the turn, in turn or not.
		{desk(1, one(0, 0, 0, 3, 3), one(1, 1, 0, 33, 33)), 20, 2, false},
		{desk(2, one(0, 0, 0, 30, 30), one(1, 1, 1, 3, 3)), 3, 1, false},
		{widest(), 1, 31, true}, {widest(), 2, 31, false}, {widest(), 43, 16, true}, {widest(), 44, 16, true}, {widest(), 45, 0, true},
	} {
		if n, is, e := ticket.Whose(x.t, x.minute); n != x.set || is != x.nobody || e != api.OK {
			t.Error(i, n, is, e)
		}
	}
}

// P3.5: a half hour is 30 minutes, of its own hut.
func TestFree(t *testing.T) {
	exact := desk(3, one(0, 0, 1, 10, 10), one(0, 0, 1, 40, 40), one(0, 0, 1, 71, 71))
	for minute := range api.TicketMinutes + 1 {
		want := api.TicketAlways
		if minute >= 10 && minute <= 69 || minute >= 71 && minute <= 100 {
			want = api.TicketNever
		}
		if n, e := ticket.Free(exact, 1, minute); n != want || e != api.OK {
			t.Error(minute, n, e)
		}
		for _, hut := range []int{0, 2} {
			if n, e := ticket.Free(exact, hut, minute); n != api.TicketAlways || e != api.OK {
				t.Error(hut, minute, n, e)
			}
		}
	}
	perhaps := desk(1, one(0, 0, 0, 10, 12))
	for minute, want := range map[int]int{9: 2, 10: 1, 11: 1, 12: 0, 39: 0, 40: 1, 41: 1, 42: 2} {
		if n, e := ticket.Free(perhaps, 0, minute); n != want || e != api.OK {
			t.Error("perhaps", minute, n, e)
		}
	}
	// One of two half hours has the minute in each truth, neither in all.
	either := desk(1, one(0, 0, 0, 10, 11), one(0, 0, 0, 40, 40), one(40, 40, 0, 70, 72))
	for minute, want := range map[int]int{9: 2, 10: 0, 39: 0, 40: 0, 69: 0, 70: 1, 71: 1, 72: 0, 99: 0, 100: 1, 101: 1, 102: 2} {
		if n, e := ticket.Free(either, 0, minute); n != want || e != api.OK {
			t.Error("either", minute, n, e)
		}
	}
	for _, x := range []struct{ minute, want int }{{239, 2}, {240, 0}} {
		if n, e := ticket.Free(desk(4, one(240, 240, 3, 240, 240)), 3, x.minute); n != x.want || e != api.OK {
			t.Error("last", x, n, e)
		}
	}
}

// P3.6.
func TestSums(t *testing.T) {
	for i, x := range []struct {
		t                  api.Tickets
		waits, busy, wrong api.Span
	}{
		{api.Tickets{Huts: 1}, span(0, 0), span(0, 0), span(0, 0)},
		{desk(4), span(0, 0), span(0, 0), span(0, 0)},
		{desk(1, one(0, 0, 0, 0, 0)), span(0, 0), span(1, 1), span(0, 0)},
		{desk(1, one(0, 2, 0, 0, 2)), span(0, 2), span(1, 1), span(0, 0)},
		{desk(1, one(0, 0, 0, 240, 240)), span(240, 240), span(1, 1), span(0, 0)},
		{desk(1, one(0, 2, 0, 238, 240)), span(236, 240), span(1, 1), span(0, 0)},
		// Who waits longest can be one or the other.
		{desk(2, one(0, 2, 0, 10, 10), one(1, 1, 1, 10, 11)), span(9, 10), span(2, 2), span(0, 1)},
		// Half hours meet in their last minute, or just do not.
		{desk(2, one(0, 0, 0, 8, 8), one(0, 0, 1, 37, 37)), span(37, 37), span(2, 2), span(0, 0)},
		{desk(2, one(0, 0, 0, 8, 8), one(0, 0, 1, 38, 38)), span(38, 38), span(1, 1), span(0, 0)},
		{desk(2, one(0, 0, 0, 37, 37), one(0, 0, 1, 8, 8)), span(37, 37), span(2, 2), span(1, 1)},
		{desk(2, one(0, 0, 0, 8, 10), one(0, 0, 1, 39, 39)), span(39, 39), span(1, 2), span(0, 0)},
		// Two of one hut are never needed at once.
		{desk(1, one(0, 0, 0, 8, 8), one(0, 0, 0, 38, 38)), span(38, 38), span(1, 1), span(0, 0)},
		{desk(2, one(0, 0, 0, 8, 8), one(0, 0, 0, 38, 38), one(0, 0, 1, 23, 23)), span(38, 38), span(2, 2), span(1, 1)},
		// The first hut meets the second one, and this the third one, which does not meet the first one.
		{desk(3, one(0, 0, 0, 8, 8), one(0, 0, 1, 37, 37), one(0, 0, 2, 66, 66)), span(66, 66), span(2, 2), span(0, 0)},
		{desk(4, one(9, 9, 3, 9, 9), one(9, 9, 2, 10, 10), one(9, 9, 1, 11, 11), one(9, 9, 0, 12, 12), one(9, 9, 3, 39, 39)), span(30, 30), span(4, 4), span(0, 0)},
		{widest(), span(40, 44), span(4, 4), span(0, 4)},
	} {
		for k, want := range []api.Span{x.waits, x.busy, x.wrong} {
			if s, e := sums()[k](x.t); s != want || e != api.OK {
				t.Error(i, k, s, e)
			}
		}
	}
}

// P3.7: the fewest tickets, and of several sets the least number.
func TestClash(t *testing.T) {
	for i, x := range []struct {
		t    api.Tickets
		want int
		e    api.Errno
	}{
		{desk(1), 0, api.ErrNone},
		{widest(), 0, api.ErrNone},
		{desk(1, one(5, 5, 0, 5, 5)), 0, api.ErrNone},
		{desk(1, one(5, 5, 0, 4, 4)), 1, api.OK},
		{desk(1, one(5, 6, 0, 3, 5)), 0, api.ErrNone},
		{desk(1, one(0, 0, 0, 30, 30), one(0, 0, 0, 0, 0)), 0, api.ErrNone},
		{desk(1, one(0, 0, 0, 29, 29), one(0, 0, 0, 0, 0)), 3, api.OK},
		{desk(1, one(0, 0, 0, 0, 0), one(0, 0, 0, 29, 29)), 3, api.OK},
		{desk(1, one(0, 0, 0, 7, 7), one(0, 0, 0, 7, 7)), 3, api.OK},
		{desk(2, one(0, 0, 0, 7, 7), one(0, 0, 1, 7, 7)), 0, api.ErrNone},
		// A ticket alone is fewer than two of a lesser number.
		{desk(1, one(0, 0, 0, 0, 0), one(0, 0, 0, 9, 9), one(0, 0, 0, 90, 90), one(9, 9, 0, 8, 8)), 8, api.OK},
		{desk(2, one(9, 9, 1, 3, 3), one(0, 0, 0, 9, 9), one(0, 0, 0, 10, 10), one(9, 9, 0, 8, 8)), 1, api.OK},
		// Of two pairs the least number: 1 and 2, before 0 and 3.
		{desk(2, one(0, 0, 0, 10, 10), one(0, 0, 1, 20, 20), one(0, 0, 1, 30, 30), one(0, 0, 0, 20, 20)), 6, api.OK},
		{desk(2, one(0, 0, 0, 10, 10), one(0, 0, 1, 20, 20), one(0, 0, 0, 30, 30), one(0, 0, 1, 30, 30)), 5, api.OK},
		// Each two of three can be so, all three cannot.
		{desk(1, one(0, 0, 0, 10, 10), one(0, 0, 0, 39, 41), one(0, 0, 0, 69, 69)), 7, api.OK},
		{desk(1, one(0, 0, 0, 10, 10), one(0, 0, 0, 39, 41), one(0, 0, 0, 70, 70)), 0, api.ErrNone},
		{desk(2, one(0, 0, 1, 10, 10), one(0, 0, 0, 11, 11), one(0, 0, 0, 69, 70), one(0, 0, 1, 80, 80), one(0, 0, 0, 39, 41)), 22, api.OK},
		// No four of five clash.
		{desk(1, one(0, 0, 0, 2, 2), one(0, 0, 0, 31, 32), one(0, 0, 0, 61, 62), one(0, 0, 0, 91, 92), one(0, 0, 0, 121, 121)), 31, api.OK},
		{desk(1, one(0, 0, 0, 2, 2), one(0, 0, 0, 31, 32), one(0, 0, 0, 61, 62), one(0, 0, 0, 91, 92), one(0, 0, 0, 122, 122)), 0, api.ErrNone},
		// When a ticket was bought decides, too.
		{desk(1, one(12, 14, 0, 10, 12), one(0, 0, 0, 41, 41)), 3, api.OK},
	} {
		n, e := ticket.Clash(x.t)
		if n != x.want || e != x.e {
			t.Error(i, n, e)
		}
		_, f := ticket.Busy(x.t)
		if (e == api.OK) != (f == api.ErrClash) || (e == api.ErrNone) != (f == api.OK) {
			t.Error(i, "Clash and Busy", e, f)
		}
	}
}

// argument is what a function takes besides tickets.
type argument int

const (
	nothing argument = iota
	aTicket
	aMinute
	hutAndMinute
)

// call is a call of one of the functions: its error, and whether all other results are zero values.
type call struct {
	name string
	uses argument
	do   func(t api.Tickets, n, m int) (api.Errno, bool)
}

func calls() []call {
	list := []call{
		{"Minutes", aTicket, func(t api.Tickets, n, _ int) (api.Errno, bool) {
			b, d, e := ticket.Minutes(t, n)
			return e, b == api.Span{} && d == api.Span{}
		}},
		{"Turn", aTicket, func(t api.Tickets, n, _ int) (api.Errno, bool) {
			x, e := ticket.Turn(t, n)
			return e, x == 0
		}},
		{"Passed", aTicket, func(t api.Tickets, n, _ int) (api.Errno, bool) {
			a, b, e := ticket.Passed(t, n)
			return e, a == 0 && b == 0
		}},
		{"Whose", aMinute, func(t api.Tickets, _, m int) (api.Errno, bool) {
			x, is, e := ticket.Whose(t, m)
			return e, x == 0 && !is
		}},
		{"Free", hutAndMinute, func(t api.Tickets, n, m int) (api.Errno, bool) {
			x, e := ticket.Free(t, n, m)
			return e, x == 0
		}},
		{"Clash", nothing, func(t api.Tickets, _, _ int) (api.Errno, bool) {
			x, e := ticket.Clash(t)
			return e, x == 0
		}},
	}
	for i, name := range []string{"Waits", "Busy", "Wrong"} {
		list = append(list, call{name, nothing, func(t api.Tickets, _, _ int) (api.Errno, bool) {
			s, e := sums()[i](t)
			return e, s == api.Span{}
		}})
	}
	return list
}

// named is tickets with a name.
type named struct {
	name string
	t    api.Tickets
}

// invalid are tickets that are not valid, each for one reason.
func invalid() []named {
	const low, high = math.MinInt, math.MaxInt
	good := one(0, 0, 0, 0, 0)
	list := []named{
		{"no huts", desk(0)}, {"huts below 0", desk(-1)}, {"least huts", desk(low)}, {"five huts", desk(api.TicketHuts + 1)}, {"greatest huts", desk(high)},
		{"no huts, with a ticket", desk(0, good)}, {"five huts, with a ticket", desk(5, one(0, 0, 4, 0, 0))}, {"no huts at all", api.Tickets{}},
		{"six tickets", desk(4, slices.Repeat([]api.Ticket{good}, api.TicketMany+1)...)},
	}
	for _, hut := range []int{low, -1, 2, 3, 4, high} {
		list = append(list, named{"hut", desk(2, one(0, 0, hut, 0, 0))}, named{"hut, the last one", desk(2, good, one(50, 50, hut, 50, 50))})
	}
	for _, s := range []api.Span{span(1, 0), span(9, 8), span(-1, 0), span(-1, -1), span(0, 3), span(238, 241), span(239, 241), span(240, 241), span(241, 241), span(0, 240), span(low, 0), span(low, low), span(0, high), span(high, high), span(low, high), span(high, low), span(high, 0), span(2, low)} {
		for _, x := range []api.Ticket{{Bought: s, Hut: 0, Door: span(50, 50)}, {Bought: span(50, 50), Hut: 0, Door: s}} {
			list = append(list, named{"span", desk(2, x)}, named{"span, the last one", desk(2, good, x)}, named{"span, the first one", desk(2, x, good)})
		}
	}
	return list
}

// limits are tickets that go as far as they may.
func limits() []named {
	return []named{
		{"nothing", api.Tickets{Huts: 1}}, {"empty", desk(1, []api.Ticket{}...)}, {"four huts", desk(4)}, {"five tickets", widest()},
		{"hut 3", desk(4, one(0, 0, 3, 0, 0))}, {"first minute", desk(1, one(0, 0, 0, 0, 0))}, {"last minute", desk(1, one(240, 240, 0, 240, 240))},
		{"widest at first", desk(1, one(0, 2, 0, 0, 2))}, {"widest at last", desk(1, one(238, 240, 0, 238, 240))}, {"far apart", desk(1, one(0, 2, 0, 238, 240))},
	}
}

// ErrArg comes first, whatever else is wrong, and with it there is no other result.
func TestInvalidTickets(t *testing.T) {
	for i, x := range invalid() {
		for _, f := range calls() {
			for _, n := range []int{math.MinInt, -1, 0, 1, 241, math.MaxInt} {
				if e, zero := f.do(x.t, n, n); e != api.ErrArg || !zero {
					t.Error(i, x.name, f.name, n, e, zero)
				}
			}
		}
	}
}

func TestLimitsAreValid(t *testing.T) {
	for _, x := range limits() {
		for _, f := range calls() {
			want := api.OK
			if f.name == "Clash" {
				want = api.ErrNone
			} else if f.uses == aTicket && len(x.t.Tickets) == 0 {
				want = api.ErrRange
			}
			for _, m := range []int{0, api.TicketMinutes} {
				if e, _ := f.do(x.t, 0, m); e != want {
					t.Error(x.name, f.name, m, e)
				}
			}
		}
	}
}

// ErrRange comes just beyond the bounds of each argument, also if there is no truth; within them there is ErrClash then.
func TestRangesAndClashes(t *testing.T) {
	const low, high = math.MinInt, math.MaxInt
	three := ticketsU()
	three.Huts = 4
	clashing := ticketsV()
	clashing.Huts = 4
	good := map[argument][][2]int{
		nothing: {{0, 0}}, aTicket: {{0, 0}, {2, 0}}, aMinute: {{0, 0}, {0, 240}}, hutAndMinute: {{0, 0}, {3, 240}, {2, 17}},
	}
	bad := map[argument][][2]int{
		aTicket:      {{-1, 0}, {3, 0}, {5, 0}, {low, 0}, {high, 0}},
		aMinute:      {{0, -1}, {0, 241}, {0, low}, {0, high}},
		hutAndMinute: {{-1, 0}, {4, 0}, {low, 0}, {high, 0}, {0, -1}, {0, 241}, {0, low}, {0, high}, {4, -1}},
	}
	for _, f := range calls() {
		for _, x := range good[f.uses] {
			if e, _ := f.do(three, x[0], x[1]); e != api.OK && (f.name != "Clash" || e != api.ErrNone) {
				t.Error(f.name, x, e)
			}
			if e, zero := f.do(clashing, x[0], x[1]); f.name != "Clash" && (e != api.ErrClash || !zero) {
				t.Error(f.name, x, "clash", e, zero)
			}
		}
		for _, x := range bad[f.uses] {
			for _, y := range []api.Tickets{three, clashing} {
				if e, zero := f.do(y, x[0], x[1]); e != api.ErrRange || !zero {
					t.Error(f.name, x, e, zero)
				}
			}
		}
		if e, _ := f.do(desk(4), 0, 0); f.uses == aTicket && e != api.ErrRange {
			t.Error(f.name, "no tickets", e)
		}
	}
	if e, _ := calls()[4].do(desk(2), 2, 0); e != api.ErrRange {
		t.Error("no hut 2", e)
	}
}

// R4: no argument is changed, nor what lies behind it in memory.
func TestMemory(t *testing.T) {
	for _, x := range []api.Tickets{ticketsU(), ticketsV(), widest()} {
		more := append(slices.Clone(x.Tickets), one(1, 2, 3, 4, 5), one(6, 7, 8, 9, 9))
		same := slices.Clone(more)
		x.Tickets = more[:len(x.Tickets)]
		for _, f := range calls() {
			for n := range x.Tickets {
				f.do(x, n, 10*n)
				if !slices.Equal(more, same) {
					t.Fatal(f.name, more, same)
				}
			}
		}
	}
}

// Nothing is kept from call to call: after a call with an error, or with other tickets, all is as it was.
func TestCallsKnowNothingOfOneAnother(t *testing.T) {
	for range 2 {
		TestExamples(t)
		for _, f := range calls() {
			f.do(desk(9), -1, -1)
			f.do(ticketsV(), 0, 0)
			f.do(widest(), 4, 44)
		}
	}
}
