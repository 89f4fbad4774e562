package watch

import "dipworks/api"

// tale is how something is told of truths.
type tale[T any] struct {
	// of returns what is told of one truth.
	of func(truth) T
	// together returns what is told of all truths. They come in any order, so this must make no difference.
	together func(...T) T
}

// tell returns what is told of truths. It refuses the call if there is none.
func (t tale[T]) tell(truths map[truth]bool) T {
	require(len(truths) > 0, api.ErrClash)
	var list []T
	for x := range truths {
		list = append(list, t.of(x))
	}
	return t.together(list...)
}

// told is the work of those functions that return what is told of all truths. What they name has to be such.
func told[T any](w api.Watches, t tale[T], such ...bool) (T, api.Errno) {
	return attempt(func() T { return t.tell(check(w, such...).fits().truths()) })
}

// whose tells whose a find is.
func whose(find int) tale[set] {
	return tale[set]{
		of:       func(x truth) set { return one(x.owners[find]) },
		together: union,
	}
}

// share is which finds are somebody's, and whether none is.
type share struct {
	finds set
	none  bool
}

// shareOf returns what an owner has in a truth.
func shareOf(x truth, owner int) share {
	for find, n := range x.list() {
		if n == owner {
			return share{finds: one(find)}
		}
	}
	return share{none: true}
}

// joined returns which finds are somebody's in any of the shares, and whether none is in one of them.
func joined(shares ...share) share {
	var joint share
	for _, s := range shares {
		joint.finds = union(joint.finds, s.finds)
		joint.none = joint.none || s.none
	}
	return joint
}

// owned tells what an owner has.
func owned(owner int) tale[share] {
	return tale[share]{
		of:       func(x truth) share { return shareOf(x, owner) },
		together: joined,
	}
}

// unsure stands for the owner of a find that is not the same one's in all truths.
const unsure = -1

// common returns whose each find is in each of the truths.
func common(truths ...truth) truth {
	sure := truths[0]
	for _, x := range truths {
		for find, owner := range x.owners {
			if sure.owners[find] != owner {
				sure.owners[find] = unsure
			}
		}
	}
	return sure
}

// surely tells whose each find surely is.
func surely() tale[truth] {
	return tale[truth]{
		of:       func(x truth) truth { return x },
		together: common,
	}
}
