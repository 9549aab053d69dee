package find

import (
	"cmp"
	"slices"

	"typeball/api"
	"typeball/array"
)

// Grade returns the positions of the elements of a list, counted from origin, in
// ascending or in descending order of the elements.
func Grade(a array.Array, down bool, origin int) (array.Array, api.Errno) {
	if a.Rank() != 1 {
		return array.Array{}, api.ErrRank
	}
	l := inOrder(a, down)
	for i := range l {
		l[i] += origin
	}
	return array.Ints(l...), api.OK
}

// inOrder returns the places of the elements in ascending or in descending order;
// those of equal elements are in their original order both ways.
func inOrder(a array.Array, down bool) []int {
	l := run(a.Len(), 0)
	slices.SortStableFunc(l, func(i, k int) int {
		if down {
			return compared(a, a, k, i)
		}
		return compared(a, a, i, k)
	})
	return l
}

// compared returns -1, 0 or 1 if element i of a is less than, equal to or greater than
// element k of b, which is of the same kind.
func compared(a, b array.Array, i, k int) int {
	if a.IsChar() {
		return cmp.Compare(a.Rune(i), b.Rune(k))
	}
	return a.Rat(i).Cmp(b.Rat(k))
}
