package array

import "typeball/ratio"

// blank is the fill element of characters; that of numbers is 0.
const blank = ' '

// Pick returns the array of the shape s of the elements at these indices, and of
// the fill element where there is no such index, and true; the zero value and false
// if s is no shape, or has another number of elements.
func (a Array) Pick(s []int, at []int) (Array, bool) {
	if a.char {
		return Chars(s, a.pickRunes(at)...)
	}
	return Nums(s, a.pickRats(at)...)
}

// pickRats returns the numbers at these indices.
func (a Array) pickRats(at []int) []ratio.Rat {
	l := make([]ratio.Rat, len(at))
	for i, k := range at {
		l[i] = a.Rat(k)
	}
	return l
}

// pickRunes returns the characters at these indices.
func (a Array) pickRunes(at []int) []rune {
	l := make([]rune, len(at))
	for i, k := range at {
		l[i] = blank
		if k >= 0 && k < len(a.text) {
			l[i] = a.text[k]
		}
	}
	return l
}

// Ravel returns a list of the elements.
func (a Array) Ravel() Array {
	if a.char {
		return Text(a.text)
	}
	l, _ := Nums([]int{len(a.nums)}, a.nums...)
	return l
}
