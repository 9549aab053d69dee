package cut

import (
	"slices"

	"typeball/api"
	"typeball/array"
)

// Take returns the first elements of a along each axis, as many as by has it, or the
// last ones where its number is negative; the fill element where a has too few.
func Take(by, a array.Array) (array.Array, api.Errno) { return part(by, a, taken) }

// Drop returns a without its first elements along each axis, as many as by has it,
// or without the last ones where its number is negative.
func Drop(by, a array.Array) (array.Array, api.Errno) { return part(by, a, left) }

// part returns the part of a at those positions along each axis that which tells for
// the axis's number and length.
func part(by, a array.Array, which func(many, n int) []int) (array.Array, api.Errno) {
	l, e := list(by)
	if e != api.OK {
		return array.Array{}, e
	}
	if a.Rank() == 0 {
		b, ok := a.Pick(slices.Repeat([]int{1}, len(l)), []int{0})
		if !ok {
			return array.Array{}, api.ErrRank
		}
		a = b
	}
	if len(l) != a.Rank() {
		return array.Array{}, api.ErrLength
	}
	from := make([][]int, len(l))
	for axis, n := range a.Shape() {
		from[axis] = which(bounded(l[axis]), n)
	}
	return picked(a, from)
}

// bounded returns a number brought close enough to 0 to be reckoned with. One that is
// farther off changes nothing: an axis can neither have so many elements nor get them.
func bounded(many int) int {
	const most = api.MaxItems + 1
	return min(max(many, -most), most)
}

// taken returns the positions of the first many of n elements, or of the last -many.
func taken(many, n int) []int {
	if many < 0 {
		return run(n+many, -many)
	}
	return run(0, many)
}

// left returns the positions of all but the first many of n elements, or of all but
// the last -many.
func left(many, n int) []int {
	if many < 0 {
		return run(0, max(n+many, 0))
	}
	return run(many, max(n-many, 0))
}
