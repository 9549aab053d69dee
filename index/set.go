package index

import (
	"typeball/api"
	"typeball/array"
	"typeball/shape"
)

// Set returns a with the elements of v, or with the one of a v without axes, where
// Index would have read them.
func Set(a, v array.Array, origin int, l ...Sub) (array.Array, api.Errno) {
	s, places, e := selected(a.Shape(), origin, l)
	if e == api.OK {
		e = fits(v, s)
	}
	switch {
	case e != api.OK:
		return array.Array{}, e
	case len(places) == 0:
		return a, api.OK
	case a.IsChar() != v.IsChar():
		return array.Array{}, api.ErrDomain
	}
	var b array.Array
	if a.IsChar() {
		b, _ = array.Chars(a.Shape(), put(a.Runes(), places, v.Runes())...)
	} else {
		b, _ = array.Nums(a.Shape(), put(a.Rats(), places, v.Rats())...)
	}
	return b, api.OK
}

// fits returns the error of a v that can't be put into a selection of the shape s.
func fits(v array.Array, s []int) api.Errno {
	switch {
	case v.Rank() == 0:
		return api.OK
	case v.Rank() != len(s):
		return api.ErrRank
	case !shape.Same(v.Shape(), s):
		return api.ErrLength
	}
	return api.OK
}

// put puts the elements of v, or its only one again and again, at places of l, one
// after the other.
func put[T any](l []T, places []int, v []T) []T {
	for i, at := range places {
		l[at] = v[i%len(v)]
	}
	return l
}
