package ticket

import "dipworks/api"

// question is what is asked of a truth: which ones, of all tickets or of all huts, are such.
type question interface {
	answer(x truth) set
}

// which asks which of so many are such.
type which struct {
	many int
	such func(x truth, n int) bool
}

func (w which) answer(x truth) set {
	return setOf(w.many, func(n int) bool { return w.such(x, n) })
}

// orNobody asks the same. If no one is such the answer is the set of nobody alone, who comes behind all others.
type orNobody struct{ which }

func (o orNobody) answer(x truth) set {
	if s := o.which.answer(x); s != 0 {
		return s
	}
	return one(o.nobody())
}

// nobody returns the number that stands for nobody.
func (o orNobody) nobody() int {
	return o.many
}

// told is which ones are such in each truth, and which are in some.
type told struct{ surely, perhaps set }

// ask asks a question of all truths.
func (d desk) ask(q question) told {
	t := told{surely: everything}
	for x := range d.truths() {
		s := q.answer(x)
		t.surely &= s
		t.perhaps = join(t.perhaps, s)
	}
	return t
}

// of returns in which truths the one with the number n is such: in none, in some, or in each.
func (t told) of(n int) int {
	switch {
	case t.surely.has(n):
		return api.TicketAlways
	case t.perhaps.has(n):
		return api.TicketPerhaps
	}
	return api.TicketNever
}

// whose is whose turn it is in some truth, and whether nobody waits in some.
type whose struct {
	tickets set
	nobody  bool
}

// whose returns whose turn it can be at a minute.
func (d desk) whose(minute int) whose {
	q := orNobody{which{many: len(d.list), such: func(x truth, ticket int) bool {
		return x.hasTurn(ticket, minute)
	}}}
	some := d.ask(q).perhaps
	return whose{tickets: some & all(q.many), nobody: some.has(q.nobody())}
}
