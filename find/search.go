package find

import (
	"slices"

	"typeball/api"
	"typeball/array"
)

// Index returns for each element of a its first position in the list in, counted from
// origin; the one after the last if it does not occur there.
func Index(in, a array.Array, origin int) (array.Array, api.Errno) {
	if in.Rank() > 1 {
		return array.Array{}, api.ErrRank
	}
	l := places(in, a)
	for i := range l {
		l[i] += origin
	}
	return shaped(a.Shape(), l), api.OK
}

// Member returns for each element of a 1 if it occurs in in, and otherwise 0.
func Member(a, in array.Array) array.Array {
	l := places(in, a)
	for i, at := range l {
		l[i] = 0
		if at < in.Len() {
			l[i] = 1
		}
	}
	return shaped(a.Shape(), l)
}

// shaped returns the array of the shape s with these integers.
func shaped(s, l []int) array.Array {
	a, _ := array.Ints(l...).Pick(s, run(len(l), 0))
	return a
}

// places returns for each element of a the first place in in at which it occurs; the
// number of elements there if it does not.
func places(in, a array.Array) []int {
	l := slices.Repeat([]int{in.Len()}, a.Len())
	if in.IsChar() != a.IsChar() {
		return l
	}
	sorted := inOrder(in, false)
	for i := range l {
		at, ok := slices.BinarySearchFunc(sorted, i, func(k, i int) int { return compared(in, a, k, i) })
		if ok {
			// The search finds the first of equal elements, which the order has left in
			// their original order.
			l[i] = sorted[at]
		}
	}
	return l
}
