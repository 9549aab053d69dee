package cut

import (
	"slices"

	"typeball/api"
	"typeball/array"
	"typeball/mold"
)

// Compress returns a with those elements along an axis, the last one if it is
// negative, where by has a 1.
func Compress(by, a array.Array, axis int) (array.Array, api.Errno) {
	return flagged(by, a, axis, kept)
}

// Expand returns a with its elements along an axis, the last one if it is negative,
// where by has a 1, and the fill element where it has a 0.
func Expand(by, a array.Array, axis int) (array.Array, api.Errno) {
	return flagged(by, a, axis, spread)
}

// flagged returns a with the elements at those positions along an axis that which
// tells for the flags of by and the axis's length.
func flagged(by, a array.Array, axis int, which func(flags []int, n int) ([]int, bool)) (array.Array, api.Errno) {
	flags, e := list(by)
	if e != api.OK {
		return array.Array{}, e
	}
	if slices.ContainsFunc(flags, neither) {
		return array.Array{}, api.ErrDomain
	}
	if a.Rank() == 0 && axis <= 0 {
		a = a.Ravel()
	}
	axis, ok := mold.Axis(a, axis)
	if !ok {
		return array.Array{}, api.ErrRank
	}
	s := a.Shape()
	at, ok := which(flags, s[axis])
	if !ok {
		return array.Array{}, api.ErrLength
	}
	from := make([][]int, len(s))
	for i, n := range s {
		from[i] = run(0, n)
	}
	from[axis] = at
	return picked(a, from)
}

// neither reports whether a number is no flag, which is 0 or 1.
func neither(n int) bool { return n != 0 && n != 1 }

// kept returns the positions along an axis of length n where there is a 1, and true;
// false unless there is a flag for each. One flag is for all, one element for all flags.
func kept(flags []int, n int) ([]int, bool) {
	if len(flags) == 1 {
		flags = slices.Repeat(flags, n)
	}
	if n != 1 && len(flags) != n {
		return nil, false
	}
	var at []int
	for i, flag := range flags {
		if flag == 1 {
			at = append(at, i%n)
		}
	}
	return at, true
}

// spread returns, for each 1, the next position along an axis of length n, for each 0
// nowhere, and true; false unless there is a 1 for each. One element is for all of them.
func spread(flags []int, n int) ([]int, bool) {
	if n != 1 && ones(flags) != n {
		return nil, false
	}
	at, next := make([]int, len(flags)), 0
	for i, flag := range flags {
		at[i] = nowhere
		if flag == 1 {
			at[i] = next % n
			next++
		}
	}
	return at, true
}

// ones returns how many flags are 1.
func ones(flags []int) int {
	n := 0
	for _, flag := range flags {
		n += flag
	}
	return n
}
