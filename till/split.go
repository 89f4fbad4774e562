package till

import (
	"cmp"
	"slices"
)

// remainder is what the division for a part leaves.
type remainder struct{ part, rest int }

// split returns what each part gets of so many pence.
func split(amount int, parts []int) []int {
	gets := make([]int, len(parts))
	together := sum(parts...)
	if together == 0 {
		return gets
	}
	rests := make([]remainder, len(parts))
	for n, part := range parts {
		gets[n] = amount * part / together
		rests[n] = remainder{n, amount * part % together}
	}
	left := amount - sum(gets...)
	for _, x := range greatestFirst(rests)[:left] {
		gets[x.part]++
	}
	return gets
}

// greatestFirst returns the remainders, the greatest one first, of equal ones the one that comes first.
func greatestFirst(rests []remainder) []remainder {
	sorted := make([]remainder, len(rests))
	copy(sorted, rests)
	slices.SortStableFunc(sorted, func(a, b remainder) int { return cmp.Compare(b.rest, a.rest) })
	return sorted
}
