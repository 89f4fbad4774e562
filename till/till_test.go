package till_test

import (
	"slices"
	"testing"

	"dipworks/api"
	"dipworks/till"
)

func span(lo, hi int) api.Span { return api.Span{Lo: lo, Hi: hi} }

// one is a ticket: when it was bought, its hut, and when the door was closed.
func one(a, b, hut, c, d int) api.Ticket {
	return api.Ticket{Bought: span(a, b), Hut: hut, Door: span(c, d)}
}

// of is a till of some tickets.
func of(price, fine, wait, huts int, tickets ...api.Ticket) api.Till {
	return api.Till{Tickets: api.Tickets{Huts: huts, Tickets: tickets}, Price: price, Fine: fine, Wait: wait}
}

func entry(ticket, kind, pence int) api.TillEntry {
	return api.TillEntry{Ticket: ticket, Kind: kind, Pence: pence}
}

func book(entries ...api.TillEntry) []api.TillEntry { return entries }

// tillT is that of the examples, and tillN the same of tickets without a truth.
func tillT() api.Till {
	return of(12, 5, 2, 2, one(0, 0, 0, 10, 11), one(2, 3, 1, 8, 8), one(3, 4, 0, 40, 41))
}

func tillN() api.Till {
	t := tillT()
	t.Tickets.Tickets[2].Door = span(38, 39)
	return t
}

// bookL is that of the examples, perhaps with more behind it.
func bookL(more ...api.TillEntry) []api.TillEntry {
	return append(book(entry(0, 1, 12), entry(1, 1, 12), entry(1, 2, 5), entry(2, 3, 6)), more...)
}

// widest is a till of as many truths as there can be, of which all amounts are the greatest.
func widest() api.Till {
	return of(100, 100, 100, 4, one(0, 2, 0, 10, 12), one(0, 2, 1, 10, 12), one(0, 2, 2, 10, 12), one(0, 2, 3, 10, 12), one(0, 2, 0, 42, 44))
}

// either is a till of which just one of the tickets 0 and 1 has a fine, whichever it is.
func either() api.Till {
	return of(1, 7, 1, 3, one(4, 6, 0, 10, 10), one(5, 5, 1, 8, 8), one(5, 5, 2, 12, 12))
}

func checkTakings(t *testing.T, x api.Till, all int, want api.Errno) {
	t.Helper()
	if n, e := till.Takings(x); n != all || e != want {
		t.Error("Takings", x, n, e, all, want)
	}
}

func checkFine(t *testing.T, x api.Till, n int, fine api.Span, want api.Errno) {
	t.Helper()
	if s, e := till.Fine(x, n); s != fine || e != want {
		t.Error("Fine", x, n, s, e, fine, want)
	}
}

func checkFines(t *testing.T, x api.Till, fines api.Span, want api.Errno) {
	t.Helper()
	if s, e := till.Fines(x); s != fines || e != want {
		t.Error("Fines", x, s, e, fines, want)
	}
}

func checkBack(t *testing.T, x api.Till, n int, back api.Span, want api.Errno) {
	t.Helper()
	if s, e := till.Back(x, n); s != back || e != want {
		t.Error("Back", x, n, s, e, back, want)
	}
}

func checkCheck(t *testing.T, x api.Till, b []api.TillEntry, entry, rule int, want api.Errno) {
	t.Helper()
	if n, r, e := till.Check(x, b); n != entry || r != rule || e != want {
		t.Error("Check", x, b, n, r, e, entry, rule, want)
	}
}

func checkMissing(t *testing.T, x api.Till, b []api.TillEntry, sets [3]int, want api.Errno) {
	t.Helper()
	if p, f, k, e := till.Missing(x, b); [3]int{p, f, k} != sets || e != want {
		t.Error("Missing", x, b, p, f, k, e, sets, want)
	}
}

func checkSum(t *testing.T, x api.Till, b []api.TillEntry, all int, want api.Errno) {
	t.Helper()
	if n, e := till.Sum(x, b); n != all || e != want {
		t.Error("Sum", x, b, n, e, all, want)
	}
}

// checkRight fails unless a book is right, and comes to so much.
func checkRight(t *testing.T, x api.Till, b []api.TillEntry, all int) {
	t.Helper()
	checkCheck(t, x, b, 0, 0, api.ErrNone)
	checkSum(t, x, b, all, api.OK)
}

// checkFault fails unless an entry of a book is the first one that breaks a rule.
func checkFault(t *testing.T, x api.Till, b []api.TillEntry, entry, rule int) {
	t.Helper()
	checkCheck(t, x, b, entry, rule, api.OK)
	checkSum(t, x, b, 0, api.ErrRefuse)
}

// The examples of the chapter, and that of the document.
func TestExamples(t *testing.T) {
	x := tillT()
	checkTakings(t, x, 36, api.OK)
	checkFines(t, x, span(5, 5), api.OK)
	checkFine(t, x, 0, span(0, 0), api.OK)
	checkFine(t, x, 1, span(5, 5), api.OK)
	checkBack(t, x, 0, span(2, 2), api.OK)
	checkBack(t, x, 1, span(0, 0), api.OK)
	checkBack(t, x, 2, span(6, 6), api.OK)
	checkCheck(t, x, bookL(), 0, 0, api.ErrNone)
	checkCheck(t, x, bookL(entry(1, 1, 12)), 4, api.TillTwice, api.OK)
	checkCheck(t, x, book(entry(0, 2, 5)), 0, api.TillWrong, api.OK)
	checkMissing(t, x, bookL(), [3]int{4, 0, 1}, api.OK)
	checkSum(t, x, bookL(), 23, api.OK)
	checkSum(t, x, book(entry(0, 2, 5)), 0, api.ErrRefuse)
	checkSplit(t, 10, list(1, 1, 1), list(4, 3, 3))
	checkSplit(t, 10, list(5, 3, 1), list(6, 3, 1))
	checkSplit(t, 10, list(0), list(0))
}

// P13.1: the price for each ticket, whether there is a truth or not.
func TestTakings(t *testing.T) {
	for many := range 6 {
		for _, price := range []int{0, 1, 12, 99, 100} {
			checkTakings(t, of(price, 3, 4, 4, widest().Tickets.Tickets[:many]...), price*many, api.OK)
		}
	}
	checkTakings(t, tillN(), 36, api.OK)
	checkTakings(t, of(100, 0, 0, 1, one(9, 9, 0, 1, 1)), 100, api.OK)
}

// P13.2: the fine is due in no truth, in some, or in each; of all together not always the sum.
func TestFine(t *testing.T) {
	for i, x := range []struct {
		t     api.Till
		each  []api.Span
		fines api.Span
	}{
		{of(9, 9, 9, 1), nil, span(0, 0)},
		{of(9, 100, 9, 1, one(0, 2, 0, 5, 7)), []api.Span{span(0, 0)}, span(0, 0)},
		{tillT(), []api.Span{span(0, 0), span(5, 5), span(0, 0)}, span(5, 5)},
		{of(9, 0, 9, 2, one(0, 0, 0, 10, 11), one(2, 3, 1, 8, 8)), []api.Span{span(0, 0), span(0, 0)}, span(0, 0)},
		{of(9, 100, 9, 2, one(0, 0, 0, 10, 11), one(2, 3, 1, 8, 8)), []api.Span{span(0, 0), span(100, 100)}, span(100, 100)},
		{of(0, 7, 0, 2, one(1, 1, 0, 8, 8), one(0, 2, 1, 30, 30)), []api.Span{span(0, 7), span(0, 0)}, span(0, 7)},
		// Bought at the same minute, the first one is before the other one; closed at the same minute, none passes the other one over.
		{of(0, 7, 0, 2, one(1, 1, 0, 9, 9), one(1, 1, 1, 8, 8)), []api.Span{span(0, 0), span(7, 7)}, span(7, 7)},
		{of(0, 7, 0, 2, one(1, 1, 0, 9, 9), one(1, 1, 1, 10, 10)), []api.Span{span(0, 0), span(0, 0)}, span(0, 0)},
		{of(0, 7, 0, 2, one(1, 1, 0, 9, 9), one(2, 2, 1, 9, 9)), []api.Span{span(0, 0), span(0, 0)}, span(0, 0)},
		// Either one can be out of turn, but not both.
		{of(0, 7, 0, 2, one(4, 6, 0, 10, 11), one(5, 5, 1, 10, 11)), []api.Span{span(0, 7), span(0, 7)}, span(0, 7)},
		{either(), []api.Span{span(0, 7), span(0, 7), span(0, 0)}, span(7, 7)},
		// Who passes two others over has one fine.
		{of(0, 7, 0, 3, one(0, 0, 0, 20, 20), one(1, 1, 1, 21, 21), one(2, 2, 2, 5, 5)), []api.Span{span(0, 0), span(0, 0), span(7, 7)}, span(7, 7)},
		{of(0, 7, 0, 3, one(0, 0, 0, 20, 20), one(1, 1, 1, 19, 19), one(2, 2, 2, 18, 18)), []api.Span{span(0, 0), span(7, 7), span(7, 7)}, span(14, 14)},
		{widest(), []api.Span{span(0, 100), span(0, 100), span(0, 100), span(0, 100), span(0, 0)}, span(0, 400)},
	} {
		if want := ends(truths(x.t.Tickets), func(y truth) int { return y.fines(x.t) }); want != x.fines {
			t.Error(i, "the test is wrong", want)
		}
		checkFines(t, x.t, x.fines, api.OK)
		for n, fine := range x.each {
			checkFine(t, x.t, n, fine, api.OK)
		}
	}
}

// P13.3: so much for each whole ten minutes, and nothing for what is left.
func TestBack(t *testing.T) {
	for i, x := range []struct {
		t    api.Till
		n    int
		back api.Span
	}{
		{of(0, 0, 3, 1, one(5, 5, 0, 5, 5)), 0, span(0, 0)},
		{of(0, 0, 3, 1, one(5, 5, 0, 14, 14)), 0, span(0, 0)},
		{of(0, 0, 3, 1, one(5, 5, 0, 15, 15)), 0, span(3, 3)},
		{of(0, 0, 3, 1, one(5, 5, 0, 24, 24)), 0, span(3, 3)},
		{of(0, 0, 3, 1, one(5, 5, 0, 25, 25)), 0, span(6, 6)},
		{of(0, 0, 3, 1, one(5, 5, 0, 14, 15)), 0, span(0, 3)},
		{of(0, 0, 3, 1, one(5, 6, 0, 15, 15)), 0, span(0, 3)},
		{of(0, 0, 3, 1, one(5, 7, 0, 14, 14)), 0, span(0, 0)},
		{of(0, 0, 3, 1, one(5, 7, 0, 17, 19)), 0, span(3, 3)},
		{of(0, 0, 3, 1, one(5, 7, 0, 16, 18)), 0, span(0, 3)},
		{of(0, 0, 3, 1, one(5, 7, 0, 23, 25)), 0, span(3, 6)},
		{of(0, 0, 3, 1, one(5, 7, 0, 22, 24)), 0, span(3, 3)},
		{of(0, 0, 0, 1, one(5, 7, 0, 23, 25)), 0, span(0, 0)},
		{of(0, 0, 1, 1, one(0, 0, 0, 240, 240)), 0, span(24, 24)},
		{of(0, 0, 100, 1, one(0, 2, 0, 238, 240)), 0, span(2300, 2400)},
		// A door is not closed before buying, so the spans can cross.
		{of(0, 0, 100, 1, one(5, 7, 0, 4, 6)), 0, span(0, 0)},
		{of(0, 0, 100, 1, one(6, 7, 0, 4, 6)), 0, span(0, 0)},
		{of(0, 0, 100, 1, one(238, 240, 0, 238, 240)), 0, span(0, 0)},
		// What another ticket of the hut leaves: a door is closed 30 minutes later.
		{of(0, 0, 5, 1, one(32, 32, 0, 40, 42), one(0, 0, 0, 12, 12)), 0, span(5, 5)},
		{of(0, 0, 5, 1, one(32, 32, 0, 40, 42), one(0, 0, 0, 11, 12)), 0, span(0, 5)},
		{of(0, 0, 5, 2, one(32, 32, 0, 40, 42), one(0, 0, 1, 12, 12)), 0, span(0, 5)},
		{of(0, 0, 5, 1, one(0, 0, 0, 9, 11), one(0, 0, 0, 39, 39)), 0, span(0, 0)},
		{of(0, 0, 5, 1, one(0, 0, 0, 9, 11), one(0, 0, 0, 39, 40)), 0, span(0, 5)},
		{widest(), 4, span(400, 400)},
		{widest(), 0, span(0, 100)},
	} {
		if want := ends(truths(x.t.Tickets), func(y truth) int { return y.back(x.t, x.n) }); want != x.back {
			t.Error(i, "the test is wrong", want)
		}
		checkBack(t, x.t, x.n, x.back, api.OK)
	}
}

// P13.4 and P13.6: pence that can be due are those of some truth, and no others.
func TestAmounts(t *testing.T) {
	perhaps := of(1, 7, 4, 2, one(1, 1, 0, 10, 11), one(0, 2, 1, 30, 30))
	for i, x := range []struct {
		t            api.Till
		ticket, kind int
		right        []int
	}{
		{tillT(), 0, api.TillPrice, list(12)}, {tillT(), 2, api.TillPrice, list(12)}, {of(0, 5, 5, 1, one(0, 0, 0, 10, 10)), 0, api.TillPrice, list(0)},
		{tillT(), 0, api.TillFine, nil}, {tillT(), 1, api.TillFine, list(5)}, {perhaps, 0, api.TillFine, list(7)}, {perhaps, 1, api.TillFine, nil}, {either(), 0, api.TillFine, list(7)}, {either(), 1, api.TillFine, list(7)},
		// A fine of no pence is due too, but of nobody who is always in turn.
		{of(5, 0, 5, 2, one(0, 0, 0, 10, 11), one(2, 3, 1, 8, 8)), 0, api.TillFine, nil}, {of(5, 0, 5, 2, one(0, 0, 0, 10, 11), one(2, 3, 1, 8, 8)), 1, api.TillFine, list(0)}, {of(5, 0, 5, 2, one(1, 1, 0, 8, 8), one(0, 2, 1, 30, 30)), 0, api.TillFine, list(0)},
		{tillT(), 0, api.TillBack, list(2)}, {tillT(), 1, api.TillBack, list(0)}, {tillT(), 2, api.TillBack, list(6)},
		// Nothing between what can be given back, and nothing beside it.
		{perhaps, 0, api.TillBack, list(0, 4)}, {perhaps, 1, api.TillBack, list(8, 12)}, {of(5, 5, 0, 1, one(0, 2, 0, 9, 11)), 0, api.TillBack, list(0)}, {of(5, 5, 10, 1, one(0, 2, 0, 18, 20)), 0, api.TillBack, list(10, 20)},
	} {
		for _, amount := range []int{low, low + 1, -100, -12, -7, -6, -5, -4, -1, 0, 1, 2, 3, 4, 5, 6, 7, 8, 9, 10, 11, 12, 13, 15, 16, 18, 19, 20, 21, 30, 100, 101, high - 1, high} {
			b := book(entry(x.ticket, x.kind, amount))
			if !slices.Contains(x.right, amount) {
				checkFault(t, x.t, b, 0, api.TillWrong)
				continue
			}
			comes := amount
			if x.kind == api.TillBack {
				comes = -amount
			}
			checkRight(t, x.t, b, comes)
		}
		if t.Failed() {
			t.Fatal(i)
		}
	}
}

// P13.4: the first entry that breaks a rule, and the first rule; twice is only what is of the same ticket and kind, whatever its pence.
func TestCheck(t *testing.T) {
	x := tillT()
	checkRight(t, x, nil, 0)
	checkRight(t, x, book(entry(0, 1, 12), entry(0, 3, 2), entry(1, 1, 12), entry(1, 2, 5), entry(1, 3, 0), entry(2, 1, 12), entry(2, 3, 6)), 33)
	checkFault(t, x, book(entry(1, 1, 12), entry(1, 1, 12)), 1, api.TillTwice)
	checkFault(t, x, book(entry(1, 2, 5), entry(0, 1, 12), entry(1, 2, 5)), 2, api.TillTwice)
	checkFault(t, x, book(entry(2, 3, 6), entry(2, 1, 12), entry(2, 3, 6), entry(2, 1, 12)), 2, api.TillTwice)
	// It is twice, and wrong: the first rule is told.
	checkFault(t, x, book(entry(1, 1, 12), entry(1, 1, 11)), 1, api.TillTwice)
	checkFault(t, x, book(entry(1, 2, 5), entry(1, 2, 0)), 1, api.TillTwice)
	checkFault(t, x, book(entry(2, 3, 6), entry(2, 3, 60)), 1, api.TillTwice)
	// The first entry decides.
	checkFault(t, x, book(entry(1, 1, 11), entry(1, 1, 12)), 0, api.TillWrong)
	checkFault(t, x, book(entry(1, 1, 12), entry(0, 2, 5), entry(1, 1, 12)), 1, api.TillWrong)
	checkFault(t, x, book(entry(1, 1, 12), entry(1, 1, 12), entry(0, 2, 5)), 1, api.TillTwice)
	checkFault(t, x, bookL(entry(0, 1, 12), entry(0, 2, 5)), 4, api.TillTwice)
	checkFault(t, x, bookL(entry(0, 3, 1)), 4, api.TillWrong)
	full := slices.Repeat(bookL(), 5)
	checkFault(t, x, full, 4, api.TillTwice)
	// Both fines can be due, though not in the same truth.
	checkRight(t, either(), book(entry(0, 2, 7), entry(1, 2, 7)), 14)
}

// P13.4 and P13.6: of five tickets all three kinds can be booked, the greatest amounts of all.
func TestFullBook(t *testing.T) {
	x := of(100, 100, 100, 4, one(0, 2, 0, 10, 12), one(0, 2, 1, 10, 12), one(0, 2, 2, 10, 12), one(0, 2, 3, 10, 12))
	var b []api.TillEntry
	for n := range 4 {
		b = append(b, entry(n, 1, 100), entry(n, 2, 100), entry(n, 3, 100))
	}
	checkRight(t, x, b, 400)
	checkMissing(t, x, b, [3]int{}, api.OK)
	for n := range b {
		checkFault(t, x, append(slices.Clone(b), b[n]), 12, api.TillTwice)
		if b[n].Kind == api.TillBack {
			b[n].Pence = 0
		}
	}
	checkRight(t, x, b, 800)
}

// P13.5: what is surely due and not booked, whether the book is right or not.
func TestMissing(t *testing.T) {
	x := tillT()
	checkMissing(t, x, nil, [3]int{7, 2, 5}, api.OK)
	for i, y := range []struct {
		b    []api.TillEntry
		sets [3]int
	}{
		{book(entry(0, 1, 12)), [3]int{6, 2, 5}}, {book(entry(1, 1, 12)), [3]int{5, 2, 5}}, {book(entry(2, 1, 12)), [3]int{3, 2, 5}},
		{book(entry(1, 2, 5)), [3]int{7, 0, 5}}, {book(entry(0, 3, 2)), [3]int{7, 2, 4}}, {book(entry(2, 3, 6)), [3]int{7, 2, 1}},
		{book(entry(0, 2, 5)), [3]int{7, 2, 5}}, {book(entry(1, 3, 0)), [3]int{7, 2, 5}},
		// These are not right, but booked.
		{book(entry(0, 1, 11)), [3]int{6, 2, 5}}, {book(entry(1, 2, low), entry(0, 3, high)), [3]int{7, 0, 4}},
		{book(entry(0, 1, 12), entry(0, 1, 12)), [3]int{6, 2, 5}},
		{slices.Repeat(bookL(), 5), [3]int{4, 0, 1}},
	} {
		checkMissing(t, x, y.b, y.sets, api.OK)
		if want := missing(x, truths(x.Tickets), y.b); want != y.sets {
			t.Error(i, "the test is wrong", want)
		}
	}
}

// P13.5: a price is missing even if it is nothing; a fine, or what is given back, only if there is none without it.
func TestMissingOfNothing(t *testing.T) {
	x := tillT()
	x.Price = 0
	checkMissing(t, x, nil, [3]int{7, 2, 5}, api.OK)
	x.Fine = 0
	checkMissing(t, x, nil, [3]int{7, 0, 5}, api.OK)
	x.Wait = 0
	checkMissing(t, x, nil, [3]int{7, 0, 0}, api.OK)
	x.Wait, x.Fine = 1, 1
	checkMissing(t, x, nil, [3]int{7, 2, 5}, api.OK)
	checkMissing(t, either(), nil, [3]int{7, 0, 0}, api.OK)
	checkMissing(t, widest(), nil, [3]int{31, 0, 16}, api.OK)
	checkMissing(t, of(1, 1, 1, 1, one(0, 0, 0, 9, 10)), nil, [3]int{1, 0, 0}, api.OK)
	checkMissing(t, of(1, 1, 1, 1, one(0, 0, 0, 19, 20)), nil, [3]int{1, 0, 1}, api.OK)
	checkMissing(t, of(1, 1, 1, 1), nil, [3]int{}, api.OK)
}

// P13.6: prices and fines come in, what is given back goes out, also if that is more.
func TestSum(t *testing.T) {
	x := tillT()
	for i, y := range []struct {
		b   []api.TillEntry
		all int
	}{
		{nil, 0}, {bookL(), 23}, {book(entry(0, 1, 12)), 12}, {book(entry(1, 2, 5)), 5}, {book(entry(2, 3, 6)), -6}, {book(entry(2, 3, 6), entry(0, 3, 2)), -8}, {book(entry(2, 3, 6), entry(1, 2, 5)), -1}, {bookL(entry(0, 3, 2), entry(2, 1, 12)), 33}, {bookL(entry(1, 3, 0)), 23},
	} {
		checkRight(t, x, y.b, y.all)
		if t.Failed() {
			t.Fatal(i)
		}
	}
	checkRight(t, of(0, 0, 100, 1, one(0, 0, 0, 240, 240)), book(entry(0, 1, 0), entry(0, 3, 2400)), -2400)
}
