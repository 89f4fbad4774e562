package till_test

import (
	"math/bits"
	"slices"
	"testing"

	"dipworks/api"
	"dipworks/till"
)

func list(of ...int) []int { return of }

func checkSplit(t *testing.T, amount int, parts, gets []int) {
	t.Helper()
	if l, e := till.Split(amount, parts); !slices.Equal(l, gets) || e != api.OK {
		t.Error("Split", amount, parts, l, e, gets)
	}
}

// P13.7: first what is rounded down, then the greatest remainders, of equal ones the first.
func TestSplit(t *testing.T) {
	for _, x := range []struct {
		amount      int
		parts, gets []int
	}{
		{0, nil, nil}, {10, nil, nil}, {5000, list(), nil},
		{0, list(0), list(0)}, {5000, list(0, 0, 0), list(0, 0, 0)}, {7, list(0, 0, 0, 0, 0, 0), list(0, 0, 0, 0, 0, 0)},
		{0, list(3, 4), list(0, 0)}, {10, list(1), list(10)}, {5000, list(20), list(5000)}, {10, list(0, 7, 0), list(0, 10, 0)},
		{1, list(1, 1), list(1, 0)}, {2, list(1, 1, 1), list(1, 1, 0)}, {3, list(1, 1, 1), list(1, 1, 1)}, {4, list(1, 1, 1), list(2, 1, 1)},
		{1, list(1, 2), list(0, 1)}, {1, list(1, 2, 2), list(0, 1, 0)}, {2, list(1, 2, 2), list(0, 1, 1)}, {5, list(20, 20, 20, 20, 20, 20), list(1, 1, 1, 1, 1, 0)},
		// The greatest remainder need not be that of the greatest part, or of who gets most.
		{10, list(5, 3, 1), list(6, 3, 1)}, {3, list(2, 1, 1), list(1, 1, 1)}, {5, list(3, 1), list(4, 1)}, {7, list(5, 4, 2), list(3, 3, 1)}, {12, list(4, 1, 3), list(6, 2, 4)}, {12, list(1, 4, 3), list(2, 6, 4)}, {11, list(6, 5, 2), list(5, 4, 2)},
		{5000, list(20, 19, 18, 17, 16, 15), list(952, 905, 857, 810, 762, 714)}, {4999, list(1, 20, 20, 20, 20, 20), list(49, 990, 990, 990, 990, 990)},
	} {
		checkSplit(t, x.amount, x.parts, x.gets)
	}
}

// shared is a split that is found by looking for the part with the greatest remainder, as often as pence are left.
func shared(amount int, parts []int) []int {
	all := 0
	for _, p := range parts {
		all += p
	}
	gets := make([]int, len(parts))
	if all == 0 {
		return gets
	}
	left := amount
	for n, p := range parts {
		gets[n] = amount * p / all
		left -= gets[n]
	}
	had := make([]bool, len(parts))
	for ; left > 0; left-- {
		best := -1
		for n, p := range parts {
			if !had[n] && (best < 0 || amount*p%all > amount*parts[best]%all) {
				best = n
			}
		}
		had[best] = true
		gets[best]++
	}
	return gets
}

// checkFair fails unless a split is as P13.9 wants it.
func checkFair(t *testing.T, amount int, parts, gets []int) {
	t.Helper()
	all, sum := 0, 0
	for n, p := range parts {
		all, sum = all+p, sum+gets[n]
	}
	if all == 0 {
		return
	}
	if sum != amount {
		t.Error("not all are split", amount, parts, gets)
	}
	for n, p := range parts {
		down := amount * p / all
		up := (amount*p + all - 1) / all
		if gets[n] < down || gets[n] > up {
			t.Error("not the own part", amount, parts, gets, n)
		}
		for m, q := range parts {
			if p > q && gets[n] < gets[m] || p == q && n < m && gets[n] < gets[m] {
				t.Error("a greater part gets less", amount, parts, gets, n, m)
			}
		}
	}
}

// P13.7 and P13.9: all splits of some pence by few parts, and random ones by more.
func TestSplitsAreFair(t *testing.T) {
	check := func(amount int, parts []int) {
		gets, e := till.Split(amount, parts)
		if want := shared(amount, parts); !slices.Equal(gets, want) || e != api.OK || len(gets) != len(parts) {
			t.Fatal("Split", amount, parts, gets, e, want)
		}
		checkFair(t, amount, parts, gets)
	}
	for a := range 21 {
		for b := range 21 {
			for amount := range 60 {
				check(amount, list(a, b))
				check(amount, list(a%7, b%7, (a+b)%5))
			}
		}
	}
	left := 0
	for seed := range uint64(20000) {
		r := source(900000 + seed)
		parts := make([]int, r.IntN(7))
		for n := range parts {
			parts[n] = r.IntN(1 + r.IntN(21))
		}
		amount := r.IntN(1 + r.IntN(5001))
		check(amount, parts)
		left |= 1 << len(parts)
	}
	if bits.OnesCount(uint(left)) != 7 {
		t.Error("the splits test too little", left)
	}
}

// The document names no other error of Split than ErrArg, and with it there is no other result.
func TestInvalidSplits(t *testing.T) {
	wrong := func(amount int, parts []int) {
		t.Helper()
		if l, e := till.Split(amount, parts); len(l) != 0 || e != api.ErrArg {
			t.Error("Split", amount, parts, l, e)
		}
	}
	for _, amount := range []int{low, low + 1, -5000, -2, -1, 5001, 5002, high - 1, high} {
		wrong(amount, nil)
		wrong(amount, list(1, 2))
		wrong(amount, list(0))
	}
	for _, many := range []int{7, 8, 100} {
		wrong(5, make([]int, many))
		wrong(5, slices.Repeat(list(1), many))
	}
	for _, part := range []int{low, low + 1, -20, -1, 21, 22, high - 1, high} {
		for n := range 6 {
			parts := list(1, 2, 3, 4, 5, 20)
			parts[n] = part
			wrong(5, parts)
			wrong(0, parts[n:n+1])
		}
	}
	checkSplit(t, 5000, list(20, 20, 20, 20, 20, 20), list(834, 834, 833, 833, 833, 833))
	checkSplit(t, 0, list(20, 0, 20, 0, 20, 0), list(0, 0, 0, 0, 0, 0))
}

// R4: the parts stay as they are, and the result is new memory.
func TestSplitIsNew(t *testing.T) {
	for _, parts := range [][]int{list(1, 5, 3), list(0, 0), list(4)} {
		all := append(slices.Clone(parts), 9, 9)
		same := slices.Clone(all)
		one, _ := till.Split(10, all[:len(parts)])
		two, _ := till.Split(10, all[:len(parts)])
		kept := slices.Clone(two)
		for n := range one {
			one[n] = -1
		}
		_ = append(one, -1)
		if !slices.Equal(all, same) || !slices.Equal(two, kept) {
			t.Error(parts, all, two)
		}
	}
}
