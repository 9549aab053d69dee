package shape

import (
	"slices"

	"typeball/array"
)

// has reports whether a list has a number for an axis.
func has(s []int, axis int) bool { return axis >= 0 && axis < len(s) }

// Split returns the product of the numbers before an axis, its own number, the
// product of the numbers after it, and true; zeros and false if s is no shape, or
// has no such axis.
func Split(s []int, axis int) (int, int, int, bool) {
	if _, ok := array.Count(s); !ok || !has(s, axis) {
		return 0, 0, 0, false
	}
	return product(s[:axis]), s[axis], product(s[axis+1:]), true
}

// product multiplies some numbers of a shape, whose product is never too great.
func product(s []int) int {
	p := 1
	for _, n := range s {
		p *= n
	}
	return p
}

// With returns s with n as the number of an axis; s itself if there is no such axis.
func With(s []int, axis, n int) []int {
	t := slices.Clone(s)
	if has(t, axis) {
		t[axis] = n
	}
	return t
}

// Without returns s without the number of an axis; s itself if there is no such axis.
func Without(s []int, axis int) []int {
	if !has(s, axis) {
		return slices.Clone(s)
	}
	return slices.Concat(s[:axis], s[axis+1:])
}

// Join returns shapes one after the other.
func Join(l ...[]int) []int { return slices.Concat(l...) }

// Same reports whether two shapes are equal.
func Same(a, b []int) bool { return slices.Equal(a, b) }
