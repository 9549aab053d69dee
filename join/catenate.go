package join

import (
	"typeball/api"
	"typeball/array"
	"typeball/shape"
)

// Catenate returns b behind a along an axis, the last one if it is negative.
func Catenate(a, b array.Array, axis int) (array.Array, api.Errno) {
	a, b, ok := alike(a, b)
	if !ok {
		return array.Array{}, api.ErrDomain
	}
	s := greater(a, b)
	if axis < 0 {
		axis = len(s) - 1
	}
	if axis >= len(s) {
		return array.Array{}, api.ErrRank
	}
	a, e := extended(a, s, axis)
	if e != api.OK {
		return array.Array{}, e
	}
	b, e = extended(b, s, axis)
	if e != api.OK {
		return array.Array{}, e
	}
	return behind(a, b, axis)
}

// greater returns the shape of the array with more axes; that of one element if there
// are none.
func greater(a, b array.Array) []int {
	switch {
	case b.Rank() > a.Rank():
		return b.Shape()
	case a.Rank() > 0:
		return a.Shape()
	}
	return []int{1}
}

// extended returns an array with as many axes as s has, and with the lengths of s but
// along an axis. One that lacks this axis gets it.
func extended(a array.Array, s []int, axis int) (array.Array, api.Errno) {
	rows := shape.Without(s, axis)
	switch a.Rank() {
	case 0:
		return layer(a, rows, axis), api.OK
	case len(s) - 1:
		if !shape.Same(a.Shape(), rows) {
			return array.Array{}, api.ErrLength
		}
		return layer(a, rows, axis), api.OK
	case len(s):
		if !shape.Same(shape.Without(a.Shape(), axis), rows) {
			return array.Array{}, api.ErrLength
		}
		return a, api.OK
	}
	return array.Array{}, api.ErrRank
}
