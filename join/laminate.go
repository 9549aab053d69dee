package join

import (
	"typeball/api"
	"typeball/array"
	"typeball/shape"
)

// Laminate returns a and b side by side along a new axis of length two, ahead of an
// axis, or after all of them.
func Laminate(a, b array.Array, axis int) (array.Array, api.Errno) {
	a, b, ok := alike(a, b)
	if !ok {
		return array.Array{}, api.ErrDomain
	}
	s := a.Shape()
	if a.Rank() == 0 {
		s = b.Shape()
	}
	if axis < 0 || axis > len(s) || len(s) == api.MaxRank {
		return array.Array{}, api.ErrRank
	}
	if e := covers(b, s); e != api.OK {
		return array.Array{}, e
	}
	return behind(layer(a, s, axis), layer(b, s, axis), axis)
}

// covers returns the error of an array with axes that has another shape than s.
func covers(a array.Array, s []int) api.Errno {
	switch {
	case a.Rank() == 0 || shape.Same(a.Shape(), s):
		return api.OK
	case a.Rank() != len(s):
		return api.ErrRank
	}
	return api.ErrLength
}
