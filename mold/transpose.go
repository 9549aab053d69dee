package mold

import (
	"slices"

	"typeball/api"
	"typeball/array"
	"typeball/shape"
)

// Transpose returns a with its axes in reverse order.
func Transpose(a array.Array) array.Array {
	to := make([]int, a.Rank())
	for axis := range a.Rank() {
		to[axis] = a.Rank() - 1 - axis
	}
	return moved(a, to)
}

// TransposeBy returns a with each of its axes as the one that by tells, counted from
// origin on. Axes that become the same one are gone along together.
func TransposeBy(by, a array.Array, origin int) (array.Array, api.Errno) {
	l, e := list(by)
	if e != api.OK {
		return array.Array{}, e
	}
	if len(l) != a.Rank() {
		return array.Array{}, api.ErrLength
	}
	to, ok := axes(l, origin)
	if !ok {
		return array.Array{}, api.ErrDomain
	}
	return moved(a, to), api.OK
}

// axes returns numbers as axes counted from 0, and true; false if one lies outside
// of as many axes as there are numbers, or if an axis below the greatest is missing.
func axes(l []int, origin int) ([]int, bool) {
	to := make([]int, len(l))
	for i, n := range l {
		// The difference may be beyond 64 bits, but not without a sign.
		if n < origin || uint(n)-uint(origin) >= uint(len(l)) {
			return nil, false
		}
		to[i] = n - origin
	}
	for axis := range count(to) {
		if !slices.Contains(to, axis) {
			return nil, false
		}
	}
	return to, true
}

// count returns how many axes there are up to the greatest one.
func count(to []int) int {
	n := 0
	for _, axis := range to {
		n = max(n, axis+1)
	}
	return n
}

// moved returns the array of which axis to[i] is axis i of a, or several of them.
func moved(a array.Array, to []int) array.Array {
	s := common(a.Shape(), to)
	steps := shape.Strides(a.Shape())
	places := shape.Places(s, func(idx []int) int {
		at := 0
		for axis, step := range steps {
			at += idx[to[axis]] * step
		}
		return at
	})
	b, _ := a.Pick(s, places)
	return b
}

// common returns the shape with the lengths of s brought to other axes: of several
// that are brought to the same one, the least.
func common(s, to []int) []int {
	t := make([]int, count(to))
	for axis := range t {
		t[axis] = api.MaxItems
	}
	for i, axis := range to {
		t[axis] = min(t[axis], s[i])
	}
	return t
}
