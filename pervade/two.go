package pervade

import (
	"typeball/api"
	"typeball/array"
	"typeball/dyad"
	"typeball/ratio"
	"typeball/shape"
)

// unequal is the sign of the function that asks whether two elements are not the same.
const unequal = '\u2260'

// Fit returns the shape that two arrays make together, and whether a, and whether b, has
// its one element everywhere in it.
func Fit(a, b array.Array) ([]int, bool, bool, api.Errno) {
	s, t := a.Shape(), b.Shape()
	switch {
	case shape.Same(s, t):
		return s, false, false, api.OK
	case a.Len() == 1 && (b.Len() != 1 || len(t) > len(s)):
		return t, true, false, api.OK
	case b.Len() == 1:
		return s, false, true, api.OK
	case len(s) != len(t):
		return nil, false, false, api.ErrRank
	}
	return nil, false, false, api.ErrLength
}

// Two returns the array of what a function does to each pair of elements, or the first
// error.
func Two(c rune, a, b array.Array, limbs int) (array.Array, api.Errno) {
	if !dyad.Has(c) {
		return array.Array{}, api.ErrSyntax
	}
	s, oneA, oneB, e := Fit(a, b)
	if e != api.OK {
		return array.Array{}, e
	}
	apply := onElements(c, a, b, limbs)
	return filled(s, func(i int) (ratio.Rat, api.Errno) {
		return apply(position(i, oneA), position(i, oneB))
	})
}

// position returns where the element for position i lies in an array that may have its
// one element everywhere.
func position(i int, one bool) int {
	if one {
		return 0
	}
	return i
}

// onElements returns what applies a function to element i of a and element k of b.
func onElements(c rune, a, b array.Array, limbs int) func(i, k int) (ratio.Rat, api.Errno) {
	if a.IsChar() || b.IsChar() {
		return func(i, k int) (ratio.Rat, api.Errno) { return compared(c, a, b, i, k) }
	}
	return func(i, k int) (ratio.Rat, api.Errno) { return dyad.Two(c, a.Rat(i), b.Rat(k), limbs) }
}

// compared returns whether element i of a and element k of b are the same character, or
// whether they are not; ErrDomain for a function that doesn't ask this.
func compared(c rune, a, b array.Array, i, k int) (ratio.Rat, api.Errno) {
	if c != '=' && c != unequal {
		return ratio.Rat{}, api.ErrDomain
	}
	// A number's Rune is 0, which may be a character, too.
	same := a.IsChar() && b.IsChar() && a.Rune(i) == b.Rune(k)
	if same == (c == '=') {
		return ratio.From(1), api.OK
	}
	return ratio.From(0), api.OK
}
