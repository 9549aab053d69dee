package mold

import (
	"typeball/api"
	"typeball/array"
	"typeball/shape"
)

// Axis returns axis, or the last one of a if it is negative, and whether a has it.
func Axis(a array.Array, axis int) (int, bool) {
	if axis < 0 {
		axis = a.Rank() - 1
	}
	return axis, axis >= 0 && axis < a.Rank()
}

// Reverse returns a with the elements along an axis, the last one if it is negative,
// in reverse order.
func Reverse(a array.Array, axis int) (array.Array, api.Errno) {
	if still(a, axis) {
		return a, api.OK
	}
	axis, ok := Axis(a, axis)
	if !ok {
		return array.Array{}, api.ErrRank
	}
	last := a.Shape()[axis] - 1
	return along(a, axis, func(_, i int) int { return last - i }), api.OK
}

// Rotate returns a with the elements along an axis, the last one if it is negative,
// moved towards the start by one number, or by a number for each row; those that
// leave there come in again at the end.
func Rotate(by, a array.Array, axis int) (array.Array, api.Errno) {
	turns, ok := by.Whole()
	if !ok {
		return array.Array{}, api.ErrDomain
	}
	if still(a, axis) {
		if len(turns) != 1 {
			return array.Array{}, api.ErrRank
		}
		return a, api.OK
	}
	axis, ok = Axis(a, axis)
	if !ok {
		return array.Array{}, api.ErrRank
	}
	turn := func(row int) int { return turns[row] }
	if single(by) {
		turn = func(int) int { return turns[0] }
	} else if e := fits(by, shape.Without(a.Shape(), axis)); e != api.OK {
		return array.Array{}, e
	}
	n := a.Shape()[axis]
	return along(a, axis, func(row, i int) int { return (i + within(turn(row), n)) % n }), api.OK
}

// still reports whether an array has no axis to be turned along, and is asked for none.
func still(a array.Array, axis int) bool { return a.Rank() == 0 && axis < 0 }

// single reports whether an array is one number for all rows.
func single(by array.Array) bool { return by.Rank() <= 1 && by.Len() == 1 }

// fits returns the error of an array that does not have an element for each row.
func fits(by array.Array, rows []int) api.Errno {
	if by.Rank() != len(rows) {
		return api.ErrRank
	}
	if !shape.Same(by.Shape(), rows) {
		return api.ErrLength
	}
	return api.OK
}

// within returns the number from 0 to n-1 that is as far round an axis of length n
// as turn is. It comes ahead of any sum: turn may be at an end of the 64 bits.
func within(turn, n int) int { return (turn%n + n) % n }

// along returns a with the elements of each row along an axis in another order: at
// position i the one that was at the position from.
func along(a array.Array, axis int, from func(row, i int) int) array.Array {
	s := a.Shape()
	// Neighbours along the axis lie after apart, and so many rows lie side by side.
	_, n, after, _ := shape.Split(s, axis)
	return picked(a, s, func(at int) int {
		i := at / after % n
		row := at/(n*after)*after + at%after
		return at + (from(row, i)-i)*after
	})
}
